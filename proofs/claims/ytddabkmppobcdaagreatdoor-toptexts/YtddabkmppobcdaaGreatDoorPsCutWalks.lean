/- strings.Split and strings.Cut at a byte. How the text of a cron is read: the functions, the leaves first. -/
import Derived.Test.YtddabkmppobcdaaGreatDoorRows
import Derived.Test.YtddabkmppobcdaaGreatDoorPsShelf3
import Derived.Test.YtddabkmppobcdaaGreatDoorPsParsePlain
import Derived.Test.YtddabkmppobcdaaGreatDoorPsTextWalks
import Derived.WalkKit
import Derived.Deep.QuietTactic
import Derived.Test.YtddabkmppobcdaaGreatDoorPsCronBits
import Derived.Lib.ConvBytes
set_option maxHeartbeats 32000000
set_option maxRecDepth 8000
namespace Go.Proofs.YtddabkmppobcdaaGreatDoor
namespace Pie
open Go.RowKit Crn

theorem info_st:(Tryz.prog.info? 9).map (fun i=>(i.zero,i.size,i.bytes))=some (some (.string ByteArray.empty),1,16):=by kernel_rfl
def Texts (w:World) (B:Nat) (l:List (List UInt8)):Prop:=B<w.heap.size∧ ∀(j:Nat) x,l[j]?=some x→w.cell? ⟨B,j,none⟩=some (strV x)
theorem Texts.below {w w':World} {B n:Nat} {l:List (List UInt8)} (h:Texts w B l) (hb:Below n w w') (hn:B<n):Texts w' B l:=
 ⟨Nat.lt_of_lt_of_le h.1 hb.size,fun j x hx=>(hb.cell (p:=⟨B,j,none⟩) hn).trans (h.2 j x hx)⟩

theorem gensplit (s:List UInt8) (c:UInt8) (w:World) (hs:s.length<4294967281):
  Calls Tryz.prog 88 #[strV s,.string ⟨#[c]⟩,.int .i64 0,.int .i64 (-1)] w fun e w'=>e=.returned (.slice (some ⟨w.heap.size,0,none⟩) (pieces c s).length (pieces c s).length)∧Texts w' w.heap.size (pieces c s)∧Below w.heap.size w w':=by
 have hcnt:Lib.countB ⟨s.toArray⟩ ⟨#[c]⟩=s.count c:=by
  show Lib.count s [c]=_
  exact Lib.count_one c s
 have hle:s.count c≤s.length:=List.count_le_length
 have hsz:(⟨s.toArray⟩:ByteArray).size=s.length:=rfl
 have c0:=Any.strings_genSplit_core Tryz.lays221 info_st ⟨s.toArray⟩ ⟨#[c]⟩ 0 (-1) (s.count c+1) w (by rw [hsz];exact hs) (Nat.le_refl 1) (Nat.zero_le _)
  (fun x a _ => by
   have:=Tryz.strings_Index_one x c (w.alloc (.cells a 9))
   rw [←Lib.index_one]at this
   exact this)
  (by
   rw [hcnt]
   exact Tryz.strings_Count_one ⟨s.toArray⟩ c w)
  (by decide) (by decide) (by rw [hcnt,if_pos (by decide),hsz];omega)
 have hd:(Lib.splitB ⟨#[c]⟩ 0 (s.count c+1-1) ⟨s.toArray⟩).map (·.data.toList)=pieces c s:=by
  rw [Lib.splitB_data,Nat.add_sub_cancel]
  exact splitK_pieces c _ s rfl
 generalize Lib.splitB ⟨#[c]⟩ 0 (s.count c+1-1) ⟨s.toArray⟩=L at c0 hd
 have hlen:L.length=(pieces c s).length:=by rw [←hd,List.length_map]
 have hN:s.count c+1=(pieces c s).length:=(pieces_len c s).symm
 refine c0.mono fun e w' h=> ?_
 obtain⟨he,hw⟩:=h
 rw [hlen,hN]at he
 rw [hN,←hlen]at hw
 refine⟨he,?_,?_⟩
 ·rw [hw]
  refine⟨by simp,fun j x hx=> ?_⟩
  rw [←hd,List.getElem?_map,Option.map_eq_some_iff]at hx
  obtain⟨y,hy,rfl⟩:=hx
  rw [Lib.cellsOf_full]
  have e1:((L.map Value.string).toArray)[j]?=some (.string y):=by simp [hy]
  have:=(World.cell?_of_block (w:=w.alloc (.cells (L.map Value.string).toArray 9)) (w':=w.alloc (.cells (L.map Value.string).toArray 9)) (a:=⟨w.heap.size,j,none⟩) rfl)
  have e2:strV y.data.toList=.string y:=rfl
  rw [e2]
  simpa using e1
 ·rw [hw];exact(Below.refl _ _).alloc (Nat.le_refl _) _
theorem split_any (s:List UInt8) (c:UInt8) (w:World) (hs:s.length<4294967281):
  Calls Tryz.prog 53 #[strV s,.string ⟨#[c]⟩] w fun e w'=>e=.returned (.slice (some ⟨w.heap.size,0,none⟩) (pieces c s).length (pieces c s).length)∧Texts w' w.heap.size (pieces c s)∧Below w.heap.size w w':=by
 have c0:=gensplit s c w hs
 go_enter Tryz.func53,Tryz.ntmps53
 go_wp2_with(go_at_call 88;(with_reducible refine c0.mono ?_);rintro e w1 ⟨rfl,h1,h2⟩)
 go_ret
 exact⟨rfl,h1,h2⟩
theorem ret_three {a b c d e:Value} (h:a=b) (g:c=d):Ending.returned (.tuple #[a,c,e])=.returned (.tuple #[b,d,e]):=by rw [h,g]
theorem str_cut (l:List UInt8) (i j:Nat):Value.string ((⟨l.toArray⟩:ByteArray).extract i j)=strV ((l.take j).drop i):=by
 have:(⟨l.toArray⟩:ByteArray).extract i j=⟨((l.take j).drop i).toArray⟩:=by
  apply ByteArray.ext
  rw [ByteArray.data_extract]
  simp [List.drop_take]
 rw [this]
theorem lcut_no (s:List UInt8) (c:UInt8) (w:World) (h:c∉s):
  Calls Tryz.prog 52 #[strV s,.string ⟨#[c]⟩] w fun e w'=>e=.returned (.tuple #[strV s,.string ⟨#[]⟩,.bool false])∧w'=w:=by
 have c0:Calls Tryz.prog 87 #[strV s,.string ⟨#[c]⟩] w fun e w'=>e=.returned (.int .i64 (-1))∧w'=w:=by
  have:=Tryz.stringslite_Index_one ⟨s.toArray⟩ c w
  rw [index_none h]at this
  exact this
 clear h
 go_enter Tryz.func52,Tryz.ntmps52
 go_wp2_with(go_at_call 87;(with_reducible refine c0.mono ?_);rintro e w1 ⟨rfl,rfl⟩)
 go_ret3
 exact⟨rfl,rfl⟩
theorem lcut_yes (a b:List UInt8) (c:UInt8) (w:World) (h:c∉a) (hl:(a++c::b).length≤4294967281):
  Calls Tryz.prog 52 #[strV (a++c::b),.string ⟨#[c]⟩] w fun e w'=>e=.returned (.tuple #[strV a,strV b,.bool true])∧ ∃q,w'=w.drewN q:=by
 have c0:Calls Tryz.prog 87 #[strV (a++c::b),.string ⟨#[c]⟩] w fun e w'=>e=.returned (.int .i64 a.length)∧w'=w:=by
  have:=Tryz.stringslite_Index_one ⟨(a++c::b).toArray⟩ c w
  rw [show Lib.indexByte ((⟨(a++c::b).toArray⟩:ByteArray).data.toList) c=a.length from index_hit h]at this
  exact this
 have hsz:(⟨(a++c::b).toArray⟩:ByteArray).size=a.length+1+b.length:=by show(a++c::b).length=_;simp;omega
 have hsc:(⟨#[c]⟩:ByteArray).size=1:=rfl
 have hla:(a.length:Int)≤4294967281:=by simp at hl;omega
 have hx:(a.length:Int)≤((⟨(a++c::b).toArray⟩:ByteArray).size:Int):=by omega
 have hy:(a.length:Int)+1≤((⟨(a++c::b).toArray⟩:ByteArray).size:Int):=by omega
 clear h
 go_enter Tryz.func52,Tryz.ntmps52
 go_wp2_with(go_at_call 87;(with_reducible refine c0.mono ?_);rintro e w1 ⟨rfl,h9⟩;have h8:=h9.symm;clear h9;subst h8)
 go_quiet (fail)
 go_wp2
 go_ret3
 refine⟨?_,nq,rfl⟩
 have e1:=str_cut (a++c::b) 0 a.length
 have e2:=str_cut (a++c::b) (a.length+1) (a.length+1+b.length)
 rw [show((a++c::b).take a.length).drop 0=a by simp]at e1
 rw [show((a++c::b).take (a.length+1+b.length)).drop (a.length+1)=b by rw [List.take_of_length_le (by simp;omega)];simp]at e2
 exact ret_three e1 e2
theorem cut_no (s:List UInt8) (c:UInt8) (w:World) (h:c∉s):
  Calls Tryz.prog 22 #[strV s,.string ⟨#[c]⟩] w fun e w'=>e=.returned (.tuple #[strV s,.string ⟨#[]⟩,.bool false])∧w'=w:=by
 have c0:=lcut_no s c w h
 clear h
 go_enter Tryz.func22,Tryz.ntmps22
 go_wp2_with(go_at_call 52;(with_reducible refine c0.mono ?_);rintro e w1 ⟨rfl,rfl⟩)
 go_ret3
 exact⟨rfl,rfl⟩
theorem cut_yes (a b:List UInt8) (c:UInt8) (w:World) (h:c∉a) (hl:(a++c::b).length≤4294967281):
  Calls Tryz.prog 22 #[strV (a++c::b),.string ⟨#[c]⟩] w fun e w'=>e=.returned (.tuple #[strV a,strV b,.bool true])∧ ∃q,w'=w.drewN q:=by
 have c0:=lcut_yes a b c w h hl
 clear h hl
 go_enter Tryz.func22,Tryz.ntmps22
 go_wp2_with(go_at_call 52;(with_reducible refine c0.mono ?_);rintro e w1 ⟨rfl,q,rfl⟩)
 go_ret3
 exact⟨rfl,q,rfl⟩
end Pie
namespace Pie
open Go.RowKit Crn

def bhB (lo hi n:Int):Bool:=decide (lo≤n∧n≤hi)
abbrev bdV (lo hi:Int):Value:=.agg #[.int .i64 lo,.int .i64 hi]
theorem bhas_any (lo hi n:Int) (w:World):
  Calls Tryz.prog 206 #[bdV lo hi,.int .i64 n] w fun e w'=>e=.returned (.bool (bhB lo hi n))∧Below w.heap.size w w':=by
 by_cases h1:lo≤n
 ·have d:decide (lo≤n)=true:=by simp [h1]
  have HT:Hid (bhB lo hi n=decide (n≤hi)):=by unfold Hid bhB;rw [decide_eq_decide];omega
  go_enter Tryz.func206,Tryz.ntmps206
  go_wp2
  go_ret
  exact⟨by rw [HT.out];rfl,(Below.refl _ _).alloc (Nat.le_refl _) _⟩
 ·have d:decide (lo≤n)=false:=by simp;omega
  have HT:Hid (bhB lo hi n=false):=by unfold Hid bhB;rw [decide_eq_false_iff_not];omega
  go_enter Tryz.func206,Tryz.ntmps206
  go_wp2
  go_ret
  exact⟨by rw [HT.out];rfl,(Below.refl _ _).alloc (Nat.le_refl _) _⟩

theorem pn_long (t:List UInt8) (lo hi:Int) (w:World) (h: ¬(1≤t.length∧t.length≤2)) (hl:t.length≤4294967281):
  Calls Tryz.prog 197 #[strV t,bdV lo hi] w fun e w'=>e=.returned (.tuple #[.int .i64 0,.bool false])∧Below w.heap.size w w':=by
 have hsz:(⟨t.toArray⟩:ByteArray).size=t.length:=rfl
 by_cases h1:t.length<1
 ·have g1:((⟨t.toArray⟩:ByteArray).size:Int)<1:=by omega
  go_enter Tryz.func197,Tryz.ntmps197
  go_wp2
  go_ret2
  exact⟨rfl,(Below.refl _ _).alloc (Nat.le_refl _) _⟩
 ·have g1: ¬((⟨t.toArray⟩:ByteArray).size:Int)<1:=by omega
  have g2:(2:Int)<((⟨t.toArray⟩:ByteArray).size:Int):=by omega
  go_enter Tryz.func197,Tryz.ntmps197
  go_wp2
  go_ret2
  exact⟨rfl,(Below.refl _ _).alloc (Nat.le_refl _) _⟩
theorem bytes_of (w:World) (A:Array Value) (ta:TypeId) (t:List UInt8) (n:Nat) (hn:t.length=n): ∃(W:World) (cap:Nat),
  (convert 9 57 (strV t)).run Tryz.prog (w.alloc (.cells A ta))=.ok (.slice (some ⟨w.heap.size+1,0,none⟩) n cap) W∧
  (∀(j:Nat) x,t[j]?=some x→W.cell? ⟨w.heap.size+1,j,none⟩=some (.int .u8 x.toNat))∧(∀o,W.cell? ⟨w.heap.size,o,none⟩=A[o]?)∧Below w.heap.size w W∧w.heap.size<W.heap.size:=by
 have hz:(w.alloc (.cells A ta)).heap.size=w.heap.size+1:=by simp
 have h1:=Lib.run_convert_string_bytes (P:=Tryz.prog) (w.alloc (.cells A ta)) 9 57 5 ⟨t.toArray⟩ Tryz.underlying9 Tryz.underlying57 Tryz.underlying5
 have hsz:(⟨t.toArray⟩:ByteArray).size=t.length:=rfl
 rw [hz,hsz,hn]at h1
 refine⟨_,_,h1,fun j x hx=> ?_,fun o=> ?_,⟨rfl,rfl,rfl,?_,fun k hk=> ?_⟩,?_⟩
 ·have hj:j<t.length:=(List.getElem?_eq_some_iff.1 hx).1
  have:=Lib.bytesWorld_cell (w.alloc (.cells A ta)) 5 ⟨t.toArray⟩ j hj
  rw [hz]at this
  rw [this]
  have e:(t.getD j 0)=x:=by rw [List.getD_eq_getElem?_getD,hx];rfl
  show some (Value.int .u8 ((t.getD j 0).toNat))=_
  rw [e]
 ·rw [Lib.bytesWorld_old _ _ _ _ (by simp)];simp
 ·rw [Lib.bytesWorld_size,hz];omega
 ·rw [Lib.bytesWorld_at_old _ _ _ _ (by rw [hz];omega)];exact Below.heap_alloc w _ k hk
 ·rw [Lib.bytesWorld_size,hz];omega

def PnR (a b:UInt8) (W:World) (i n:Value) (wr:World):Prop:=wr=W∧((i=.int .i64 0∧n=.int .i64 0)∨(i=.int .i64 1∧n=.int .i64 ((a.toNat:Int)-48)∧dg a=true)∨(i=.int .i64 2∧n=.int .i64 (10*((a.toNat:Int)-48)+((b.toNat:Int)-48))∧dg a=true∧dg b=true))
def PoR (a:UInt8) (W:World) (i n:Value) (wr:World):Prop:=wr=W∧((i=.int .i64 0∧n=.int .i64 0)∨(i=.int .i64 1∧n=.int .i64 ((a.toNat:Int)-48)∧dg a=true))
theorem dg_yes {a:UInt8} (h:dg a=true):48≤(a.toNat:Int)∧(a.toNat:Int)≤57:=by unfold dg at h;rw [decide_eq_true_eq]at h;omega
theorem dg_no {a:UInt8} (h:dg a=false):(a.toNat:Int)<48∨57<(a.toNat:Int):=by unfold dg at h;rw [decide_eq_false_iff_not]at h;omega

def pnV (lo hi:Int) (t:List UInt8):Value:=match num2 t with
 |some n=> .tuple #[.int .i64 n,.bool (bhB lo hi n)]
 |none=> .tuple #[.int .i64 0,.bool false]
theorem pn_no {lo hi:Int} {t:List UInt8} (h:num2 t=none):Ending.returned (.tuple #[.int .i64 0,.bool false])=.returned (pnV lo hi t):=by unfold pnV;rw [h]
theorem pn_yes {lo hi n:Int} {t:List UInt8} (h:num2 t=some n):Ending.returned (.tuple #[.int .i64 n,.bool (bhB lo hi n)])=.returned (pnV lo hi t):=by unfold pnV;rw [h]
theorem pn_one (a:UInt8) (lo hi:Int) (w:World):
  Calls Tryz.prog 197 #[strV [a],bdV lo hi] w fun e w'=>e=.returned (pnV lo hi [a])∧Below w.heap.size w w':=by
 have hsz:(⟨[a].toArray⟩:ByteArray).size=1:=rfl
 obtain⟨W,cap,hk,hc,hA,hb,hz⟩:=bytes_of w #[.int .i64 lo,.int .i64 hi] 161 [a] 1 rfl
 have k0:=hc 0 a rfl
 have a0:W.cell? ⟨w.heap.size,0,none⟩=some (.int .i64 lo):=hA 0
 have a1:W.cell? ⟨w.heap.size,1,none⟩=some (.int .i64 hi):=hA 1
 have hau:(a.toNat:Int)≤255:=by have:=a.toNat_lt;omega
 clear hc hA
 go_enter Tryz.func197,Tryz.ntmps197
 go_wp2
 go_loopw [20,6] (fun i n wr=>PoR a W i n wr) (fun i _ _=>3-(intOf i).toNat)
 case atStart=>exact⟨rfl,Or.inl ⟨rfl,rfl⟩⟩
 case round=>
  obtain⟨h9,h8⟩:=hrel
  have h7:=h9.symm
  clear h9
  subst h7
  rcases h8 with⟨rfl,rfl⟩|⟨rfl,rfl,hd⟩
  ·cases hda:dg a
   ·rcases dg_no hda with g|g
    ·go_wp2
     go_ret2
     exact⟨pn_no (by simp [num2,hda]),hb⟩
    ·go_wp2
     go_ret2
     exact⟨pn_no (by simp [num2,hda]),hb⟩
   ·have g:=dg_yes hda
    have HD:Hid (dg a=true):=hda
    clear hda
    go_wp2
    go_roundw
    case rel=>exact⟨rfl,Or.inr ⟨rfl,rfl,HD.out⟩⟩
    case measure=>simp [intOf]
  ·have g:=dg_yes hd
   have c0:=fun w=>bhas_any lo hi ((a.toNat:Int)-48) w
   have HD:Hid (dg a=true):=hd
   clear hd
   go_wp2_with(go_at_call 206;(with_reducible refine(c0 _).mono ?_);rintro e w1 ⟨rfl,hb1⟩)
   go_ret2
   exact⟨pn_yes (by simp [num2,HD.out]),hb.trans (hb1.mono (Nat.le_of_lt hz))⟩
theorem pn_two (a b:UInt8) (lo hi:Int) (w:World):
  Calls Tryz.prog 197 #[strV [a,b],bdV lo hi] w fun e w'=>e=.returned (pnV lo hi [a,b])∧Below w.heap.size w w':=by
 have hsz:(⟨[a,b].toArray⟩:ByteArray).size=2:=rfl
 obtain⟨W,cap,hk,hc,hA,hb,hz⟩:=bytes_of w #[.int .i64 lo,.int .i64 hi] 161 [a,b] 2 rfl
 have k0:=hc 0 a rfl
 have k1:=hc 1 b rfl
 have hbu:(b.toNat:Int)≤255:=by have:=b.toNat_lt;omega
 have a0:W.cell? ⟨w.heap.size,0,none⟩=some (.int .i64 lo):=hA 0
 have a1:W.cell? ⟨w.heap.size,1,none⟩=some (.int .i64 hi):=hA 1
 have hau:(a.toNat:Int)≤255:=by have:=a.toNat_lt;omega
 clear hc hA
 go_enter Tryz.func197,Tryz.ntmps197
 go_wp2
 go_loopw [20,6] (fun i n wr=>PnR a b W i n wr) (fun i _ _=>3-(intOf i).toNat)
 case atStart=>exact⟨rfl,Or.inl ⟨rfl,rfl⟩⟩
 case round=>
  obtain⟨h9,h8⟩:=hrel
  have h7:=h9.symm
  clear h9
  subst h7
  rcases h8 with⟨rfl,rfl⟩|⟨rfl,rfl,hd⟩|⟨rfl,rfl,hd,he⟩
  ·cases hda:dg a
   ·rcases dg_no hda with g|g
    ·go_wp2
     go_ret2
     exact⟨pn_no (by simp [num2,hda]),hb⟩
    ·go_wp2
     go_ret2
     exact⟨pn_no (by simp [num2,hda]),hb⟩
   ·have g:=dg_yes hda
    have HD:Hid (dg a=true):=hda
    clear hda
    go_wp2
    go_roundw
    case rel=>exact⟨rfl,Or.inr (Or.inl ⟨rfl,rfl,HD.out⟩)⟩
    case measure=>simp [intOf]
  ·have g0:=dg_yes hd
   have HD:Hid (dg a=true):=hd
   clear hd
   cases hdb:dg b
   ·rcases dg_no hdb with g|g
    ·go_wp2
     go_ret2
     exact⟨pn_no (by simp [num2,hdb]),hb⟩
    ·go_wp2
     go_ret2
     exact⟨pn_no (by simp [num2,hdb]),hb⟩
   ·have g:=dg_yes hdb
    have HE:Hid (dg b=true):=hdb
    clear hdb
    go_wp2
    go_roundw
    case rel=>exact⟨rfl,Or.inr (Or.inr ⟨rfl,rfl,HD.out,HE.out⟩)⟩
    case measure=>simp [intOf]
  ·have g:=dg_yes hd
   have g2:=dg_yes he
   have c0:=fun w=>bhas_any lo hi (10*((a.toNat:Int)-48)+((b.toNat:Int)-48)) w
   have HD:Hid (dg a=true∧dg b=true):=⟨hd,he⟩
   clear hd he
   go_wp2_with(go_at_call 206;(with_reducible refine(c0 _).mono ?_);rintro e w1 ⟨rfl,hb1⟩)
   go_ret2
   exact⟨pn_yes (by simp [num2,HD.out.1,HD.out.2]),hb.trans (hb1.mono (Nat.le_of_lt hz))⟩
theorem pn_any (t:List UInt8) (lo hi:Int) (w:World) (hl:t.length≤4294967281):
  Calls Tryz.prog 197 #[strV t,bdV lo hi] w fun e w'=>e=.returned (pnV lo hi t)∧Below w.heap.size w w':=by
 match t,hl with
 | [],hl=>exact(pn_long [] lo hi w (by simp) hl).mono fun e w' ⟨h,g⟩=>⟨h.trans (pn_no rfl),g⟩
 | [a],_=>exact pn_one a lo hi w
 | [a,b],_=>exact pn_two a b lo hi w
 |a::b::c::r,hl=>exact(pn_long (a::b::c::r) lo hi w (by simp) hl).mono fun e w' ⟨h,g⟩=>⟨h.trans (pn_no rfl),g⟩
end Pie
end Go.Proofs.YtddabkmppobcdaaGreatDoor
