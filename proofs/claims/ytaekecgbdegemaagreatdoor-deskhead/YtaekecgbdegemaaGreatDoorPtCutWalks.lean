/- A part. -/
import Derived.Test.YtaekecgbdegemaaGreatDoorPtShelf3
import Derived.Test.YtaekecgbdegemaaGreatDoorPtTextWalks
import Derived.Lib.ConvBytes
set_option linter.all false
open Go.Proofs.Tryz
set_option maxHeartbeats 32000000
set_option maxRecDepth 8000
namespace Go.Proofs.YtaekecgbdegemaaGreatDoor
namespace Pie
open Go.RowKit Crn
variable {a:UInt8} {lo hi:Int} {t:List UInt8}

theorem info_st:(prog.info? 9).map (fun i=>(i.zero,i.size,i.bytes))=some (some (.string ByteArray.empty),1,16):=by kernel_rfl
def Texts (w:World) (B:Nat) (l:List (List UInt8)):Prop:=B<w.heap.size∧ ∀(j:Nat) x,l[j]? =some x→w.cell? ⟨B,j,none⟩=some (strV x)
theorem Texts.below {w w':World} {B n:Nat} {l:List (List UInt8)} (h:Texts w B l) (hb:Below n w w') (hn:B<n):Texts w' B l:=
 ⟨Xb h.1 hb.size,fun j x hx=>(hb.cell (p:=⟨B,j,none⟩) hn).trans (h.2 j x hx)⟩

theorem gensplit (s:List UInt8) (c:UInt8) (w:World) (hs:s.length<4294967281):
  Calls prog 31 #[strV s,.string ⟨#[c]⟩,.int .i64 0,.int .i64 (-1)] w fun e w'=>e=.returned (.slice (some ⟨w.heap.size,0,none⟩) (pieces c s).length (pieces c s).length)∧Texts w' w.heap.size (pieces c s)∧Below w.heap.size w w':=by
 have hcnt:Lib.countB ⟨s.toArray⟩ ⟨#[c]⟩=s.count c:=by
  show Lib.count s [c]=_;exact Lib.count_one c s
 have hle:s.count c≤s.length:=X6;have hsz:(⟨s.toArray⟩:ByteArray).size=s.length:=rfl
 have c0:=Any.strings_genSplit_core lays221 info_st ⟨s.toArray⟩ ⟨#[c]⟩ 0 (-1) (s.count c+1) w (by rw [hsz];exact hs) (Xa 1) (Xx _)
  (fun x a _ => by
   have:=strings_Index_one x c (w.alloc (.cells a 9));rw [←Lib.index_one]at this;exact this)
  (by
   rw [hcnt];exact strings_Count_one ⟨s.toArray⟩ c w)
  (by decide) (by decide) (by rw [hcnt,if_pos (by decide),hsz];omega)
 have hd:(Lib.splitB ⟨#[c]⟩ 0 (s.count c+1-1) ⟨s.toArray⟩).map (·.data.toList)=pieces c s:=by
  rw [Lib.splitB_data,Nat.add_sub_cancel];exact splitK_pieces c _ s rfl
 generalize Lib.splitB ⟨#[c]⟩ 0 (s.count c+1-1) ⟨s.toArray⟩=L at c0 hd;have hlen:L.length=(pieces c s).length:=by rw [←hd,XE]
 have hN:s.count c+1=(pieces c s).length:=(pieces_len c s).symm;refine c0.mono fun e w' h=> ?_;obtain⟨he,hw⟩:=h;rw [hlen,hN]at he;rw [hN,←hlen]at hw;refine⟨he,?_,?_⟩
 ·rw [hw];refine⟨by simp,fun j x hx=> ?_⟩;rw [←hd,XQ,XH]at hx;obtain⟨y,hy,rfl⟩:=hx;rw [Lib.cellsOf_full];have e1:((L.map Value.string).toArray)[j]? =some (.string y):=by simp [hy]
  have:=(Xf (w:=w.alloc (.cells (L.map Value.string).toArray 9)) (w':=w.alloc (.cells (L.map Value.string).toArray 9)) (a:=⟨w.heap.size,j,none⟩) rfl)
  have e2:strV y.data.toList=.string y:=rfl;rw [e2];simpa using e1
 ·rw [hw];exact(Below.refl _ _).alloc (Xa _) _
theorem split_any (s:List UInt8) (c:UInt8) (w:World) (hs:s.length<4294967281):
  Calls prog 22 #[strV s,.string ⟨#[c]⟩] w fun e w'=>e=.returned (.slice (some ⟨w.heap.size,0,none⟩) (pieces c s).length (pieces c s).length)∧Texts w' w.heap.size (pieces c s)∧Below w.heap.size w w':=by
 have c0:=gensplit s c w hs;go_enter func22,ntmps22;go_wp2_with(go_at_call 31;(with_reducible refine c0.mono ?_);rintro e w1 ⟨rfl,h1,h2⟩)
 go_ret;exact⟨rfl,h1,h2⟩
theorem ret_three {a b c d e:Value} (h:a=b) (g:c=d):Ending.returned (.tuple #[a,c,e])=.returned (.tuple #[b,d,e]):=by rw [h,g]
theorem str_cut (l:List UInt8) (i j:Nat):Value.string ((⟨l.toArray⟩:ByteArray).extract i j)=strV ((l.take j).drop i):=by
 have:(⟨l.toArray⟩:ByteArray).extract i j=⟨((l.take j).drop i).toArray⟩:=by
  apply ByteArray.ext;rw [ByteArray.data_extract];simp [List.drop_take]
 rw [this]
theorem lcut_no (s:List UInt8) (c:UInt8) (w:World) (h:c∉s):
  CS 177 #[strV s,.string ⟨#[c]⟩] w (.tuple #[strV s,.string ⟨#[]⟩,.bool false]):=by
 have c0:CS 28 #[strV s,.string ⟨#[c]⟩] w (.int .i64 (-1)):=by
  have:=stringslite_Index_one ⟨s.toArray⟩ c w;rw [index_none h]at this;exact this
 clear h;go_enter func177,ntmps177;go_wp2_with(go_at_call 28;(with_reducible refine c0.mono ?_);rintro e w1 ⟨rfl,rfl⟩)
 go_ret3
 exact⟨rfl,rfl⟩
theorem lcut_yes (a b:List UInt8) (c:UInt8) (w:World) (h:c∉a) (hl:(a++c::b).length≤4294967281):
  Calls prog 177 #[strV (a++c::b),.string ⟨#[c]⟩] w fun e w'=>e=.returned (.tuple #[strV a,strV b,.bool true])∧ ∃q,w'=w.drewN q:=by
 have c0:CS 28 #[strV (a++c::b),.string ⟨#[c]⟩] w (.int .i64 a.length):=by
  have:=stringslite_Index_one ⟨(a++c::b).toArray⟩ c w;rw [show Lib.indexByte ((⟨(a++c::b).toArray⟩:ByteArray).data.toList) c=a.length from index_hit h]at this;exact this
 have hsz:(⟨(a++c::b).toArray⟩:ByteArray).size=a.length+1+b.length:=by show(a++c::b).length=_;simp;omega
 have hsc:(⟨#[c]⟩:ByteArray).size=1:=rfl;have hla:(a.length:Int)≤4294967281:=by simp at hl;omega
 have hx:(a.length:Int)≤((⟨(a++c::b).toArray⟩:ByteArray).size:Int):=by omega
 have hy:(a.length:Int)+1≤((⟨(a++c::b).toArray⟩:ByteArray).size:Int):=by omega
 clear h;go_enter func177,ntmps177;go_wp2_with(go_at_call 28;(with_reducible refine zq c0 ?_))
 go_quiet (fail)
 go_wp2;go_ret3
 refine⟨?_,nq,rfl⟩;have e1:=str_cut (a++c::b) 0 a.length;have e2:=str_cut (a++c::b) (a.length+1) (a.length+1+b.length);rw [show((a++c::b).take a.length).drop 0=a by simp]at e1;rw [show((a++c::b).take (a.length+1+b.length)).drop (a.length+1)=b by rw [Yx (by simp;omega)];simp]at e2;exact ret_three e1 e2
theorem cut_no (s:List UInt8) (c:UInt8) (w:World) (h:c∉s):
  CS 131 #[strV s,.string ⟨#[c]⟩] w (.tuple #[strV s,.string ⟨#[]⟩,.bool false]):=by
 have c0:=lcut_no s c w h;clear h;go_enter func131,ntmps131;go_wp2_with(go_at_call 177;(with_reducible refine c0.mono ?_);rintro e w1 ⟨rfl,rfl⟩)
 go_ret3
 exact⟨rfl,rfl⟩
theorem cut_yes (a b:List UInt8) (c:UInt8) (w:World) (h:c∉a) (hl:(a++c::b).length≤4294967281):
  Calls prog 131 #[strV (a++c::b),.string ⟨#[c]⟩] w fun e w'=>e=.returned (.tuple #[strV a,strV b,.bool true])∧ ∃q,w'=w.drewN q:=by
 have c0:=lcut_yes a b c w h hl;clear h hl;go_enter func131,ntmps131;go_wp2_with(go_at_call 177;(with_reducible refine c0.mono ?_);rintro e w1 ⟨rfl,q,rfl⟩)
 go_ret3
 exact⟨rfl,q,rfl⟩

def bhB (lo hi n:Int):Bool:=decide (lo≤n∧n≤hi)
abbrev bdV (lo hi:Int):Value:=.agg #[.int .i64 lo,.int .i64 hi]
theorem bhas_any (lo hi n:Int) (w:World):
  CB 212 #[bdV lo hi,.int .i64 n] w (.bool (bhB lo hi n)):=by
 by_cases h1:lo≤n
 ·have d:decide (lo≤n)=true:=by simp [h1]
  have HT:Hid (bhB lo hi n=decide (n≤hi)):=by unfold Hid bhB;rw [decide_eq_decide];omega
  go_enter func212,ntmps212;go_wp2;go_ret;exact⟨by rw [HT.out];rfl,(Below.refl _ _).alloc (Xa _) _⟩
 ·have d:decide (lo≤n)=false:=by simp;omega
  have HT:Hid (bhB lo hi n=false):=by unfold Hid bhB;rw [decide_eq_false_iff_not];omega
  go_enter func212,ntmps212;go_wp2;go_ret;exact⟨by rw [HT.out];rfl,(Below.refl _ _).alloc (Xa _) _⟩

theorem pn_long (t:List UInt8) (lo hi:Int) (w:World) (h: ¬(1≤t.length∧t.length≤2)) (hl:t.length≤4294967281):
  CB 170 #[strV t,bdV lo hi] w (.tuple #[.int .i64 0,.bool false]):=by
 have hsz:(⟨t.toArray⟩:ByteArray).size=t.length:=rfl;by_cases h1:t.length<1
 ·have g1:((⟨t.toArray⟩:ByteArray).size:Int)<1:=by omega
  go_enter func170,ntmps170;go_wp2;go_ret2;exact⟨rfl,(Below.refl _ _).alloc (Xa _) _⟩
 ·have g1: ¬((⟨t.toArray⟩:ByteArray).size:Int)<1:=by omega
  have g2:(2:Int)<((⟨t.toArray⟩:ByteArray).size:Int):=by omega
  go_enter func170,ntmps170;go_wp2;go_ret2;exact⟨rfl,(Below.refl _ _).alloc (Xa _) _⟩
theorem bytes_of (w:World) (A:Array Value) (ta:TypeId) (t:List UInt8) (n:Nat) (hn:t.length=n): ∃(W:World) (cap:Nat),
  (convert 9 36 (strV t)).run prog (w.alloc (.cells A ta))=.ok (.slice (some ⟨w.heap.size+1,0,none⟩) n cap) W∧
  (∀(j:Nat) x,t[j]? =some x→W.cell? ⟨w.heap.size+1,j,none⟩=some (.int .u8 x.toNat))∧(∀o,W.cell? ⟨w.heap.size,o,none⟩=A[o]?)∧Below w.heap.size w W∧w.heap.size<W.heap.size:=by
 have hz:(w.alloc (.cells A ta)).heap.size=w.heap.size+1:=by simp
 have h1:=Lib.run_convert_string_bytes (P:=prog) (w.alloc (.cells A ta)) 9 36 5 ⟨t.toArray⟩ underlying9 underlying36 underlying5;have hsz:(⟨t.toArray⟩:ByteArray).size=t.length:=rfl;rw [hz,hsz,hn]at h1;refine⟨_,_,h1,fun j x hx=> ?_,fun o=> ?_,⟨rfl,rfl,rfl,?_,fun k hk=> ?_⟩,?_⟩
 ·have hj:j<t.length:=(Xe.1 hx).1;have:=Lib.bytesWorld_cell (w.alloc (.cells A ta)) 5 ⟨t.toArray⟩ j hj;rw [hz]at this;rw [this];have e:(t.getD j 0)=x:=by rw [Yq,hx];rfl
  show some (Value.int .u8 ((t.getD j 0).toNat))=_;rw [e]
 ·rw [Lib.bytesWorld_old _ _ _ _ (by simp)];simp
 ·rw [Lib.bytesWorld_size,hz];omega
 ·rw [Lib.bytesWorld_at_old _ _ _ _ (by rw [hz];omega)];exact Below.heap_alloc w _ k hk
 ·rw [Lib.bytesWorld_size,hz];omega

def PnR (a b:UInt8) (W:World) (i n:Value) (wr:World):Prop:=wr=W∧((i=.int .i64 0∧n=.int .i64 0)∨(i=.int .i64 1∧n=.int .i64 ((a.toNat:Int)-48)∧dg a=true)∨(i=.int .i64 2∧n=.int .i64 (10*((a.toNat:Int)-48)+((b.toNat:Int)-48))∧dg a=true∧dg b=true))
def PoR (a:UInt8) (W:World) (i n:Value) (wr:World):Prop:=wr=W∧((i=.int .i64 0∧n=.int .i64 0)∨(i=.int .i64 1∧n=.int .i64 ((a.toNat:Int)-48)∧dg a=true))
theorem dg_yes (h:dg a=true):48≤(a.toNat:Int)∧(a.toNat:Int)≤57:=by unfold dg at h;rw [decide_eq_true_eq]at h;omega
theorem dg_no (h:dg a=false):(a.toNat:Int)<48∨57<(a.toNat:Int):=by unfold dg at h;rw [decide_eq_false_iff_not]at h;omega

def pnV (lo hi:Int) (t:List UInt8):Value:=match num2 t with
 |some n=> .tuple #[.int .i64 n,.bool (bhB lo hi n)]
 |none=> .tuple #[.int .i64 0,.bool false]
theorem pn_no (h:num2 t=none):Ending.returned (.tuple #[.int .i64 0,.bool false])=.returned (pnV lo hi t):=by unfold pnV;rw [h]
theorem pn_yes {n:Int} (h:num2 t=some n):Ending.returned (.tuple #[.int .i64 n,.bool (bhB lo hi n)])=.returned (pnV lo hi t):=by unfold pnV;rw [h]
theorem pn_one (a:UInt8) (lo hi:Int) (w:World):
  CB 170 #[strV [a],bdV lo hi] w (pnV lo hi [a]):=by
 have hsz:(⟨[a].toArray⟩:ByteArray).size=1:=rfl;obtain⟨W,cap,hk,hc,hA,hb,hz⟩:=bytes_of w #[.int .i64 lo,.int .i64 hi] 155 [a] 1 rfl;have k0:=hc 0 a rfl;have a0:W.cell? ⟨w.heap.size,0,none⟩=some (.int .i64 lo):=hA 0;have a1:W.cell? ⟨w.heap.size,1,none⟩=some (.int .i64 hi):=hA 1;have hau:(a.toNat:Int)≤255:=by have:=a.toNat_lt;omega
 clear hc hA;go_enter func170,ntmps170;go_wp2;go_loopw [20,6] (fun i n wr=>PoR a W i n wr) (fun i _ _=>3-(intOf i).toNat)
 case atStart=>exact⟨rfl,Or.inl ⟨rfl,rfl⟩⟩
 case round=>
  obtain⟨h9,h8⟩:=hrel;have h7:=h9.symm;clear h9;subst h7;rcases h8 with⟨rfl,rfl⟩|⟨rfl,rfl,hd⟩
  ·cases hda:dg a
   ·rcases dg_no hda with g|g
    ·go_wp2;go_ret2;exact⟨pn_no (by simp [num2,hda]),hb⟩
    ·go_wp2;go_ret2;exact⟨pn_no (by simp [num2,hda]),hb⟩
   ·have g:=dg_yes hda;have HD:=zh hda;clear hda;go_wp2;go_roundw
    case rel=>exact⟨rfl,Or.inr ⟨rfl,rfl,HD.out⟩⟩
    case measure=>simp [intOf]
  ·have g:=dg_yes hd;have c0:=fun w=>bhas_any lo hi ((a.toNat:Int)-48) w;have HD:=zh hd;clear hd;go_wp2_with(go_at_call 212;(with_reducible refine zg (c0 _) fun w1 hb1=>?_))
   go_ret2;exact⟨pn_yes (by simp [num2,HD.out]),hb.trans (hb1.mono (Xw hz))⟩
theorem pn_two (a b:UInt8) (lo hi:Int) (w:World):
  CB 170 #[strV [a,b],bdV lo hi] w (pnV lo hi [a,b]):=by
 have hsz:(⟨[a,b].toArray⟩:ByteArray).size=2:=rfl;obtain⟨W,cap,hk,hc,hA,hb,hz⟩:=bytes_of w #[.int .i64 lo,.int .i64 hi] 155 [a,b] 2 rfl;have k0:=hc 0 a rfl;have k1:=hc 1 b rfl;have hbu:(b.toNat:Int)≤255:=by have:=b.toNat_lt;omega
 have a0:W.cell? ⟨w.heap.size,0,none⟩=some (.int .i64 lo):=hA 0;have a1:W.cell? ⟨w.heap.size,1,none⟩=some (.int .i64 hi):=hA 1;have hau:(a.toNat:Int)≤255:=by have:=a.toNat_lt;omega
 clear hc hA;go_enter func170,ntmps170;go_wp2;go_loopw [20,6] (fun i n wr=>PnR a b W i n wr) (fun i _ _=>3-(intOf i).toNat)
 case atStart=>exact⟨rfl,Or.inl ⟨rfl,rfl⟩⟩
 case round=>
  obtain⟨h9,h8⟩:=hrel;have h7:=h9.symm;clear h9;subst h7;rcases h8 with⟨rfl,rfl⟩|⟨rfl,rfl,hd⟩|⟨rfl,rfl,hd,he⟩
  ·cases hda:dg a
   ·rcases dg_no hda with g|g
    ·go_wp2;go_ret2;exact⟨pn_no (by simp [num2,hda]),hb⟩
    ·go_wp2;go_ret2;exact⟨pn_no (by simp [num2,hda]),hb⟩
   ·have g:=dg_yes hda;have HD:=zh hda;clear hda;go_wp2;go_roundw
    case rel=>exact⟨rfl,Or.inr (Or.inl ⟨rfl,rfl,HD.out⟩)⟩
    case measure=>simp [intOf]
  ·have g0:=dg_yes hd;have HD:=zh hd;clear hd;cases hdb:dg b
   ·rcases dg_no hdb with g|g
    ·go_wp2;go_ret2;exact⟨pn_no (by simp [num2,hdb]),hb⟩
    ·go_wp2;go_ret2;exact⟨pn_no (by simp [num2,hdb]),hb⟩
   ·have g:=dg_yes hdb;have HE:=zh hdb;clear hdb;go_wp2;go_roundw
    case rel=>exact⟨rfl,Or.inr (Or.inr ⟨rfl,rfl,HD.out,HE.out⟩)⟩
    case measure=>simp [intOf]
  ·have g:=dg_yes hd;have g2:=dg_yes he;have c0:=fun w=>bhas_any lo hi (10*((a.toNat:Int)-48)+((b.toNat:Int)-48)) w;have HD:Hid (dg a=true∧dg b=true):=⟨hd,he⟩
   clear hd he;go_wp2_with(go_at_call 212;(with_reducible refine zg (c0 _) fun w1 hb1=>?_))
   go_ret2;exact⟨pn_yes (by simp [num2,HD.out.1,HD.out.2]),hb.trans (hb1.mono (Xw hz))⟩
theorem pn_any (t:List UInt8) (lo hi:Int) (w:World) (hl:t.length≤4294967281):
  CB 170 #[strV t,bdV lo hi] w (pnV lo hi t):=by
 match t,hl with
 | [],hl=>exact(pn_long [] lo hi w (by simp) hl).mono fun e w' ⟨h,g⟩=>⟨h.trans (pn_no rfl),g⟩
 | [a],_=>exact pn_one a lo hi w
 | [a,b],_=>exact pn_two a b lo hi w
 |a::b::c::r,hl=>exact(pn_long (a::b::c::r) lo hi w (by simp) hl).mono fun e w' ⟨h,g⟩=>⟨h.trans (pn_no rfl),g⟩

theorem snoc_eq (c:UInt8): ∀l:List UInt8,pieces c (l++ [c])=pieces c l++ [[]]
 | []=>by simp [pieces]
 |x::r=>by
  rw [XR,pieces_cons,pieces_cons,snoc_eq c r]
  by_cases e:x=c
  ·rw [if_pos e,if_pos e];rfl
  ·rw [if_neg e,if_neg e]
   cases h:pieces c r with
   |nil=>exact absurd h (pieces_ne c r)
   |cons y ys=>rfl
theorem snoc_ne (c z:UInt8) (hz: ¬z=c): ∀l:List UInt8,pieces c (l++ [z])=(pieces c l).set ((pieces c l).length-1) ((pieces c l).getD ((pieces c l).length-1) []++ [z])
 | []=>by simp [pieces,hz]
 |x::r=>by
  rw [XR,pieces_cons,pieces_cons,snoc_ne c z hz r]
  cases h:pieces c r with
  |nil=>exact absurd h (pieces_ne c r)
  |cons y ys=>
   by_cases e:x=c
   ·rw [if_pos e,if_pos e]
    simp [List.set_cons_succ]
   ·rw [if_neg e,if_neg e]
    cases ys with
    |nil=>simp
    |cons q qs=>simp [List.set_cons_succ]
def PiR (s:List UInt8) (c:UInt8) (w:World) (v i:Value) (wr:World):Prop:= ∃(k g cv:Nat),k≤s.length∧i=.int .i64 k∧v=.slice (some ⟨g,0,none⟩) (pieces c (s.take k)).length cv∧wr.ownsRow w.heap.size 9 1 v (pieces c (s.take k)).length ((pieces c (s.take k)).map strV)∧Below w.heap.size w wr
theorem take_snoc {s:List UInt8} {k:Nat} {x:UInt8} (h:s[k]? =some x):s.take (k+1)=s.take k++ [x]:=by rw [XB,h];rfl

theorem rpieces_c (s:List UInt8) (c:UInt8) (w:World) (hl:s.length≤65536):
  Calls prog 16 #[strV s,.int .u8 c.toNat] w fun e w'=> ∃B cv,(pieces c s).length≤cv∧e=.returned (.slice (some ⟨B,0,none⟩) (pieces c s).length cv)∧w.heap.size≤B∧Texts w' B (pieces c s)∧Below w.heap.size w w':=by
 obtain⟨i0,hi0,hz0,hz1,hz2⟩:=info_parts info_st;have hsz:(⟨s.toArray⟩:ByteArray).size=s.length:=rfl;go_enter func16,ntmps16;go_wp2;go_loopw [5,6] (fun v i wr=>PiR s c w v i wr) (fun _ i _=>s.length-(intOf i).toNat)
 case atStart=>exact⟨0,w.heap.size,1,Xx _,rfl,rfl,World.ownsRow_lit w #[.string ⟨#[]⟩] 1 (Xa _) (by decide) rfl,(Below.refl _ _).alloc (Xa _) _⟩
 case round=>
  obtain⟨k,g,cv,hk,rfl,rfl,hown,hbw⟩:=hrel;have hpl:(pieces c (s.take k)).length≤65537:=by rw [pieces_len];have:=X6 (a:=c) (l:=s.take k);rw [Xt]at this;omega
  have hp1:1≤(pieces c (s.take k)).length:=by rw [pieces_len];omega
  have hsb:=hbw.size;have hg:=(hown.lt g rfl)
  by_cases hlt:k<s.length
  ·have hlt':(k:Int)<s.length:=by omega
   obtain⟨x,hx⟩: ∃x,s[k]? =some x:=⟨s[k],by simp [hlt]⟩
   have HT:Hid (s.take (k+1)=s.take k++ [x]):=take_snoc hx;have HX:=zh hx;have hxk:(⟨s.toArray⟩:ByteArray)[k]'(by rw [hsz];exact hlt)=x:=by
    have:s[k]=x:=by simpa [hlt]using hx
    exact this
   clear hx;generalize hP:pieces c (s.take k)=P at*;have HP:=zh hP;clear hP;by_cases e:x=c
   ·subst e;have HS:Hid (pieces x (s.take (k+1))=P++ [[]]):=by unfold Hid;rw [HT.out,snoc_eq,HP.out]
    go_wp2_with(at_builtin;refine wpList_append_own _ rfl _ _ 23 rfl w.heap.size 9 i0 (.string ByteArray.empty) 1 16 underlying23 hi0 hz0 hz1 hz2 rfl (by decide) _ _ _ rfl (hown.alloc _) ⟨wr.heap.size,0,none⟩ 1 1 [.string ⟨#[]⟩] rfl rfl (cell_new1 _ _ _) (fun x hx=>by simp at hx;subst hx;rfl) (by unfold maxLen;omega) (by omega) (by simp;omega) ?_;intro v' w3 hown3 hgrow3 hnil3)
    go_roundw
    case rel=>
     obtain⟨g3,cap3,hv3⟩: ∃g3 cap3,v'=.slice (some ⟨g3,0,none⟩) (P.length+1) cap3:=by
      rcases hown3.2 with⟨_,h⟩|⟨g3,cap3,_,h,_⟩
      ·omega
      ·exact⟨g3,cap3,h⟩
     have hB3:Below w.heap.size w w3:=(hbw.alloc hsb _).grown hgrow3 (by simp;omega) (fun q hq=>(hown.lt q hq).1);refine⟨k+1,g3,cap3,by omega,rfl,?_,?_,hB3⟩
     ·rw [hv3,HS.out,Xg];rfl
     ·rw [HS.out,X2,Xg];exact hown3
    case measure=>simp [intOf];omega
   ·have hne:((x.toNat:Int)==(c.toNat:Int))=false:=by
     rw [beq_eq_false_iff_ne];intro h;exact e (UInt8.toNat_inj.1 (by omega))
    have HS:Hid (pieces c (s.take (k+1))=P.set (P.length-1) (P.getD (P.length-1) []++ [x])):=by unfold Hid;rw [HT.out,snoc_ne c x e,HP.out]
    obtain⟨N,hN⟩: ∃N,P.length=N+1:=⟨P.length-1,by omega⟩
    rw [hN]at hown;obtain⟨t,ht⟩: ∃t,P[N]? =some t:=⟨P[N],by simp [hN]⟩
    have d0:wr.cell? ⟨g,N,none⟩=some (strV t):=by rw [hown.cellAt N (by omega),XQ,ht];rfl
    have d1:=hown.frozenAt N;have HG:Hid (P.getD (P.length-1) []=t):=by unfold Hid;rw [hN,Nat.add_sub_cancel,Yq,ht];rfl
    have HN:=zh hN;have hk1:(k:Int)+1≤((⟨s.toArray⟩:ByteArray).size:Int):=(by omega);have hk2:(k:Int)+1≤(s.length:Int):=(by omega);have hk3:k+1≤s.length:=hlt;have hk4:(k:Int)≤(k:Int)+1:=(by omega);have htl:t.length≤65536:=by
     have h1:=pieces_sub c (s.take k) t (by rw [HP.out];exact Xk ht);rw [Xt]at h1;omega
    have hts:(⟨t.toArray⟩:ByteArray).size=t.length:=rfl;have hNb:N≤65537:=(by omega);have hwN:IntKind.i64.wrap (N:Int)=N:=by rw [IntKind.wrap_i64];omega
    have hwM:wrap64 (N:Int)=N:=by simp only [wrap64];omega
    have hwk:IntKind.i64.wrap ((k:Int)+1)=(k:Int)+1:=by rw [IntKind.wrap_i64];omega
    rw [hN];clear hN ht hpl hp1;go_wp2_with fail
    go_region
    have hst:=hown.stored N (Value.string (({ data:=t.toArray } :ByteArray)++({ data:=s.toArray } :ByteArray).extract k (k+1)));have HV:Hid (Value.string (({ data:=t.toArray } :ByteArray)++({ data:=s.toArray } :ByteArray).extract k (k+1))=strV (t++ [x])):=by
     have e1:({ data:=s.toArray } :ByteArray).extract k (k+1)=⟨[x].toArray⟩:=by
      have:=str_cut s k (k+1);rw [HT.out,List.drop_append_of_le_length (by rw [Xt];omega),List.drop_of_length_le (by rw [Xt];omega)]at this;exact Value.string.inj this
     unfold Hid;rw [e1,RCrn.str_add]
    have hB4:=(Below.refl w.heap.size w).trans (hbw.setCell hg.1 (Value.string (({ data:=t.toArray } :ByteArray)++({ data:=s.toArray } :ByteArray).extract k (k+1))) (p:=⟨g,N,none⟩));have HO:Hid ((wr.setCell ⟨g,N,none⟩ (Value.string (({ data:=t.toArray } :ByteArray)++({ data:=s.toArray } :ByteArray).extract k (k+1)))).ownsRow w.heap.size 9 1 (.slice (some ⟨g,0,none⟩) (N+1) cv) (N+1) ((P.set N (t++ [x])).map strV)):=by
     unfold Hid;rw [List.map_set,←HV.out];exact hst.1
    have HB4:=zh hB4;clear hst hB4;go_wp2;go_roundw
    case rel=>
     have e2:pieces c (s.take (k+1))=P.set N (t++ [x]):=by rw [HS.out,HG.out,HN.out,Nat.add_sub_cancel]
     have e3:(pieces c (s.take (k+1))).length=N+1:=by rw [e2,Yg];exact HN.out
     exact⟨k+1,g,cv,by omega,rfl,by rw [e3],by rw [e3,e2];exact HO.out.drew,HB4.out.drew⟩
    case measure=>simp [intOf];omega
  ·obtain rfl:k=s.length:=by omega
   go_wp2;go_ret;rw [XC]at hown;have hcv:(pieces c s).length≤cv:=by
    rcases hown.2 with⟨h,_⟩|⟨g',cap',cur,h,_,_,hc,_⟩
    ·cases h
    ·cases h;exact hc
   refine⟨g,cv,hcv,by rw [XC];rfl,hg.1,⟨hg.2,fun j x hx=> ?_⟩,hbw⟩;rw [hown.cellAt j (by have:=(Xe.1 hx).1;omega),XQ,hx];rfl
