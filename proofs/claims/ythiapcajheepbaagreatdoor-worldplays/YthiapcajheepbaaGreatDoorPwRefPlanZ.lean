/- A part. -/
import Derived.Test.YthiapcajheepbaaGreatDoorPwPlanCheck
import Derived.Test.YthiapcajheepbaaGreatDoorPwNeedWant3
set_option linter.all false
open Go.Proofs.Tryz
set_option maxHeartbeats 32000000
set_option maxRecDepth 8000
namespace Go.Proofs.YthiapcajheepbaaGreatDoor
namespace Pln
open Go.RowKit Lai Civ Crn RCrn
variable {p:Pd} {w:World} {b:Nat} {t:Tr} {ops:Array Oper} {d:Option Nat} {x:Operand} {ps:String} {af:Array Edge} {A:Act} {Q:Exit→Act→World→Prop}
set_option linter.all false

theorem PlAt.new (w:World) (p:Pd) (sl:Value) (ta:TypeId):PlAt (w.alloc (.cells (planC p sl) ta)) w.heap.size p sl:=by
  constructor<;>simp
theorem inB_len (n:Nat):RCiv.inB (n:Int) 1 16=decide (1≤n∧n≤16):=by unfold RCiv.inB;rw [decide_eq_decide];omega
theorem inB_rg (n lo hi:Int):RCiv.inB n lo hi=rg n lo hi:=rfl
theorem num_in (h:numB p=true):RCiv.inB p.mn 0 50=true∧RCiv.inB p.mx 1 50=true∧p.mn≤p.mx∧RCiv.inB p.po 1 100000=true∧RCiv.inB p.co 1 100000=true∧RCiv.inB p.tl 0 1000=true∧RCiv.inB p.bk 0 50=true∧RCiv.inB p.af 0 100=true∧RCiv.inB p.sh (-900) 900=true:=by
  unfold numB at h;simp only [Xq]at h;obtain⟨a1,a2,a3,a4,a5,a6,a7,a8⟩:=h;have q:=rg_iff.1 a2;exact⟨a1,rg_iff.2 (by omega),by omega,a3,a4,a5,a6,a7,a8⟩
/-- where Plan stands in the name -/
def RnR (nm:List UInt8) (b0:Bool) (W0:World) (ok i:Value) (wr:World):Prop:= ∃k:Nat,k≤nm.length∧i=.int .i64 k∧ok=.bool (b0&&(nm.take k).all nmC)∧wr=W0
/-- the two paces of a plan, side by side -/
structure Pc2 (w:World) (D:Nat) (p:Pd):Prop where
  c0:w.cell? ⟨D,0,none⟩=some (.int .i64 p.uw)
  c1:w.cell? ⟨D,1,none⟩=some (.int .i64 p.up)
  c2:w.cell? ⟨D,2,none⟩=some (.int .i64 p.uc)
  c3:w.cell? ⟨D,3,none⟩=some (.int .i64 p.ue)
  c4:w.cell? ⟨D,4,none⟩=some (.int .i64 p.dw)
  c5:w.cell? ⟨D,5,none⟩=some (.int .i64 p.dp)
  c6:w.cell? ⟨D,6,none⟩=some (.int .i64 p.dc)
  c7:w.cell? ⟨D,7,none⟩=some (.int .i64 p.de)
theorem Pc2.new (w:World) (p:Pd) (ta:TypeId):Pc2 (w.alloc (.cells #[.int .i64 p.uw,.int .i64 p.up,.int .i64 p.uc,.int .i64 p.ue,.int .i64 p.dw,.int .i64 p.dp,.int .i64 p.dc,.int .i64 p.de] ta)) w.heap.size p:=by
  constructor<;>simp
theorem Pc2.on {w':World} {D n:Nat} (h:Pc2 w D p) (hb:Below n w w') (hn:D<n):Pc2 w' D p:=
  ⟨(hb.cell (p:=⟨D,0,none⟩) hn).trans h.c0,(hb.cell (p:=⟨D,1,none⟩) hn).trans h.c1,(hb.cell (p:=⟨D,2,none⟩) hn).trans h.c2,(hb.cell (p:=⟨D,3,none⟩) hn).trans h.c3,(hb.cell (p:=⟨D,4,none⟩) hn).trans h.c4,(hb.cell (p:=⟨D,5,none⟩) hn).trans h.c5,(hb.cell (p:=⟨D,6,none⟩) hn).trans h.c6,(hb.cell (p:=⟨D,7,none⟩) hn).trans h.c7⟩
/-- the word `ok` behind k paces -/
def okK (o:Bool) (p:Pd):Nat→Bool
  |0=>o
  |1=>o&&paceB p.uw p.up p.uc p.ue
  |_=>(o&&paceB p.uw p.up p.uc p.ue)&&paceB p.dw p.dp p.dc p.de
def PcR (p:Pd) (sl:Value) (o:Bool) (D:Nat) (w:World) (ok i:Value) (wr:World):Prop:= ∃k:Nat,k≤2∧i=.int .i64 k∧ok=.bool (okK o p k)∧PlAt wr w.heap.size p sl∧Pc2 wr D p∧D<wr.heap.size∧Below w.heap.size w wr
theorem num_cases (h:numB p=false):(RCiv.inB p.mn 0 50=false)∨(RCiv.inB p.mn 0 50=true∧RCiv.inB p.mx 1 50=false)∨(RCiv.inB p.mn 0 50=true∧RCiv.inB p.mx 1 50=true∧ ¬p.mn≤p.mx)∨(RCiv.inB p.mn 0 50=true∧RCiv.inB p.mx 1 50=true∧p.mn≤p.mx∧RCiv.inB p.po 1 100000=false)∨
    (RCiv.inB p.mn 0 50=true∧RCiv.inB p.mx 1 50=true∧p.mn≤p.mx∧RCiv.inB p.po 1 100000=true∧RCiv.inB p.co 1 100000=false)∨(RCiv.inB p.mn 0 50=true∧RCiv.inB p.mx 1 50=true∧p.mn≤p.mx∧RCiv.inB p.po 1 100000=true∧RCiv.inB p.co 1 100000=true∧RCiv.inB p.tl 0 1000=false)∨
    (RCiv.inB p.mn 0 50=true∧RCiv.inB p.mx 1 50=true∧p.mn≤p.mx∧RCiv.inB p.po 1 100000=true∧RCiv.inB p.co 1 100000=true∧RCiv.inB p.tl 0 1000=true∧RCiv.inB p.bk 0 50=false)∨(RCiv.inB p.mn 0 50=true∧RCiv.inB p.mx 1 50=true∧p.mn≤p.mx∧RCiv.inB p.po 1 100000=true∧RCiv.inB p.co 1 100000=true∧RCiv.inB p.tl 0 1000=true∧RCiv.inB p.bk 0 50=true∧RCiv.inB p.af 0 100=false)∨
    (RCiv.inB p.mn 0 50=true∧RCiv.inB p.mx 1 50=true∧p.mn≤p.mx∧RCiv.inB p.po 1 100000=true∧RCiv.inB p.co 1 100000=true∧RCiv.inB p.tl 0 1000=true∧RCiv.inB p.bk 0 50=true∧RCiv.inB p.af 0 100=true∧RCiv.inB p.sh (-900) 900=false):=by
  cases i1:RCiv.inB p.mn 0 50
  · exact Or.inl rfl
  · right
    cases i2:RCiv.inB p.mx 1 50
    · exact Or.inl ⟨rfl,rfl⟩
    · right
      by_cases i3:p.mn≤p.mx
      · right
        cases i4:RCiv.inB p.po 1 100000
        · exact Or.inl ⟨rfl,rfl,i3,rfl⟩
        · right
          cases i5:RCiv.inB p.co 1 100000
          · exact Or.inl ⟨rfl,rfl,i3,rfl,rfl⟩
          · right
            cases i6:RCiv.inB p.tl 0 1000
            · exact Or.inl ⟨rfl,rfl,i3,rfl,rfl,rfl⟩
            · right
              cases i7:RCiv.inB p.bk 0 50
              · exact Or.inl ⟨rfl,rfl,i3,rfl,rfl,rfl,rfl⟩
              · right
                cases i8:RCiv.inB p.af 0 100
                · exact Or.inl ⟨rfl,rfl,i3,rfl,rfl,rfl,rfl,rfl⟩
                · right
                  cases i9:RCiv.inB p.sh (-900) 900
                  · exact⟨rfl,rfl,i3,rfl,rfl,rfl,rfl,rfl,rfl⟩
                  · exfalso
                    have e2:rg p.mx (max 1 p.mn) 50=true:=rg_iff.2 (by have:=rg_iff.1 (show rg p.mx 1 50=true from i2);omega);unfold numB at h;rw [show rg p.mn 0 50=true from i1,e2,show rg p.po 1 100000=true from i4,show rg p.co 1 100000=true from i5,show rg p.tl 0 1000=true from i6,show rg p.bk 0 50=true from i7,show rg p.af 0 100=true from i8,show rg p.sh (-900) 900=true from i9]at h;cases h
      · exact Or.inl ⟨rfl,rfl,i3⟩
theorem range_span (h:TrAt w b 0 t):w.rangeAt b 3 [.int .u64 t.a.mi,.int .u64 t.a.ho,.int .u64 t.a.da,.int .u64 t.a.mn,.int .u64 t.a.we,.bool t.a.ad,.bool t.a.aw,.int .u64 t.b.mi,.int .u64 t.b.ho,.int .u64 t.b.da,.int .u64 t.b.mn,.int .u64 t.b.we,.bool t.b.ad,.bool t.b.aw]:=by
  intro j v hv;match j,hv with
  |0,hv=>simp at hv;subst hv;simpa using h.c3
  |1,hv=>simp at hv;subst hv;simpa using h.c4
  |2,hv=>simp at hv;subst hv;simpa using h.c5
  |3,hv=>simp at hv;subst hv;simpa using h.c6
  |4,hv=>simp at hv;subst hv;simpa using h.c7
  |5,hv=>simp at hv;subst hv;simpa using h.c8
  |6,hv=>simp at hv;subst hv;simpa using h.c9
  |7,hv=>simp at hv;subst hv;simpa using h.c10
  |8,hv=>simp at hv;subst hv;simpa using h.c11
  |9,hv=>simp at hv;subst hv;simpa using h.c12
  |10,hv=>simp at hv;subst hv;simpa using h.c13
  |11,hv=>simp at hv;subst hv;simpa using h.c14
  |12,hv=>simp at hv;subst hv;simpa using h.c15
  |13,hv=>simp at hv;subst hv;simpa using h.c16
  |j+14,hv=>simp at hv
/-- the span of a trigger, by one step of a walk -/
theorem wp_span {rest:List Oper} (h:TrAt w b 0 t) (hx:A.eval x=.pointer (some ⟨b,3,none⟩))
    (g:wpList prog ops Q rest (A.put d (spanV t.a t.b)) w):wpList prog ops Q ({ dst:=d,op:=.load 82 x,type:=82,pos:=ps,after:=af,guard:=none } ::rest) A w:=
  wpList_load_mid rfl 82 x rfl b 3 hx [.int .u64 t.a.mi,.int .u64 t.a.ho,.int .u64 t.a.da,.int .u64 t.a.mn,.int .u64 t.a.we,.bool t.a.ad,.bool t.a.aw,.int .u64 t.b.mi,.int .u64 t.b.ho,.int .u64 t.b.da,.int .u64 t.b.mn,.int .u64 t.b.we,.bool t.b.ad,.bool t.b.aw] _ (range_span h) underlying82 rfl (by kernel_rfl) g
/-- .. and behind a guard -/
theorem wp_spanG {rest:List Oper} {gd:Option (Nat×Bool)} (h:TrAt w b 0 t) (hx:A.eval x=.pointer (some ⟨b,3,none⟩))
    (hg:Region.wanted { dst:=d,op:=.load 82 x,type:=82,pos:=ps,after:=af,guard:=gd } (yielded ops A.tmps)=true)
    (g:wpList prog ops Q rest (A.put d (spanV t.a t.b)) w):wpList prog ops Q ({ dst:=d,op:=.load 82 x,type:=82,pos:=ps,after:=af,guard:=gd } ::rest) A w:=by
  unfold wpList;rw [if_pos hg];exact Or.inl (wp_load_mid 82 x rfl b 3 hx [.int .u64 t.a.mi,.int .u64 t.a.ho,.int .u64 t.a.da,.int .u64 t.a.mn,.int .u64 t.a.we,.bool t.a.ad,.bool t.a.aw,.int .u64 t.b.mi,.int .u64 t.b.ho,.int .u64 t.b.da,.int .u64 t.b.mn,.int .u64 t.b.we,.bool t.b.ad,.bool t.b.aw] _ (range_span h) underlying82 rfl (by kernel_rfl) g)
theorem rspan_any (a b:K) (w:World) (ua:Us a) (ub:Us b):CB 17 #[spanV a b] w (.int .i64 (if kc a=true∧kc b=true then 0 else 1)):=by
  by_cases h:kc a=true∧kc b=true
  · rw [if_pos h];exact rspan_yes a b w ua ub h.1 h.2
  · rw [if_neg h]
    refine rspan_no a b w ua ub ?_;cases ha:kc a
    · exact Or.inl rfl
    · cases hb:kc b
      · exact Or.inr rfl
      · exact absurd ⟨ha,hb⟩ h
theorem zK_is' {c:K} (h:zK c=true):c=⟨0,0,0,0,0,false,false⟩:=by
  unfold zK at h;simp only [Xq,decide_eq_true_eq,Bool.not_eq_true']at h;obtain⟨h1,h2,h3,h4,h5,h6,h7⟩:=h;cases c;simp only at h1 h2 h3 h4 h5 h6 h7;subst h1 h2 h3 h4 h5 h6 h7;rfl
/-- where Plan stands: k triggers are right -/
def RtR (ts:List Tr) (p:Pd) (sl:Value) (w:World) (i:Value) (wr:World):Prop:= ∃k:Nat,k≤ts.length∧i=.int .i64 k∧(∀j t,j<k→ts[j]? =some t→trB t=true)∧PlAt wr w.heap.size p sl∧Below w.heap.size w wr∧w.heap.size<wr.heap.size
theorem num_all (p:Pd):(numB p=false∧((RCiv.inB p.mn 0 50=false)∨(RCiv.inB p.mn 0 50=true∧RCiv.inB p.mx 1 50=false)∨(RCiv.inB p.mn 0 50=true∧RCiv.inB p.mx 1 50=true∧ ¬p.mn≤p.mx)∨(RCiv.inB p.mn 0 50=true∧RCiv.inB p.mx 1 50=true∧p.mn≤p.mx∧RCiv.inB p.po 1 100000=false)∨(RCiv.inB p.mn 0 50=true∧RCiv.inB p.mx 1 50=true∧p.mn≤p.mx∧RCiv.inB p.po 1 100000=true∧RCiv.inB p.co 1 100000=false)∨(RCiv.inB p.mn 0 50=true∧RCiv.inB p.mx 1 50=true∧p.mn≤p.mx∧RCiv.inB p.po 1 100000=true∧RCiv.inB p.co 1 100000=true∧RCiv.inB p.tl 0 1000=false)∨(RCiv.inB p.mn 0 50=true∧RCiv.inB p.mx 1 50=true∧p.mn≤p.mx∧RCiv.inB p.po 1 100000=true∧RCiv.inB p.co 1 100000=true∧RCiv.inB p.tl 0 1000=true∧RCiv.inB p.bk 0 50=false)∨(RCiv.inB p.mn 0 50=true∧RCiv.inB p.mx 1 50=true∧p.mn≤p.mx∧RCiv.inB p.po 1 100000=true∧RCiv.inB p.co 1 100000=true∧RCiv.inB p.tl 0 1000=true∧RCiv.inB p.bk 0 50=true∧RCiv.inB p.af 0 100=false)∨(RCiv.inB p.mn 0 50=true∧RCiv.inB p.mx 1 50=true∧p.mn≤p.mx∧RCiv.inB p.po 1 100000=true∧RCiv.inB p.co 1 100000=true∧RCiv.inB p.tl 0 1000=true∧RCiv.inB p.bk 0 50=true∧RCiv.inB p.af 0 100=true∧RCiv.inB p.sh (-900) 900=false)))∨(numB p=true∧RCiv.inB p.mn 0 50=true∧RCiv.inB p.mx 1 50=true∧p.mn≤p.mx∧RCiv.inB p.po 1 100000=true∧RCiv.inB p.co 1 100000=true∧RCiv.inB p.tl 0 1000=true∧RCiv.inB p.bk 0 50=true∧RCiv.inB p.af 0 100=true∧RCiv.inB p.sh (-900) 900=true):=by
  cases h:numB p
  · exact Or.inl ⟨rfl,num_cases h⟩
  · exact Or.inr ⟨rfl,num_in h⟩
theorem rplan_any (p:Pd) (ts:List Tr) (a:Option Addr) (cap:Nat) (w:World) (hl:p.nm.length≤9223372036854775807) (hT:TrsAt w a ts) (hU: ∀t∈ts,TrU t):
    CB 5 #[planV p (.slice a ts.length cap)] w (.int .i64 (chkP p ts)):=by
  have HC:Hid ((nmB p.nm=false→chkP p ts=3)∧(nmB p.nm=true→5<ts.length→chkP p ts=2)∧(nmB p.nm=true→ ¬5<ts.length→okP p=false→chkP p ts=1)):=by
    unfold Hid chkP;exact⟨fun h=>by rw [if_pos h],fun h h2=>by rw [h,if_neg (by decide),if_pos h2],fun h h2 h3=>by rw [h,h3,if_neg (by decide),if_neg h2];rfl⟩
  have hsz:(⟨p.nm.toArray⟩:ByteArray).size=p.nm.length:=rfl;have cI:=fun n lo hi w=>RCiv.in_any n lo hi w;have hA0:=PlAt.new w p (.slice a ts.length cap) 26;have hz0:w.heap.size<(w.alloc (.cells (planC p (.slice a ts.length cap)) 26)).heap.size:=by simp
  have hw0:Below w.heap.size w (w.alloc (.cells (planC p (.slice a ts.length cap)) 26)):=balloc _;go_enter func5,ntmps5;go_wp2_with(go_at_call 6;(with_reducible refine zq (cI _ _ _ _) ?_))
  generalize w.alloc (.cells (planC p (.slice a ts.length cap)) 26)=W0 at hA0 hz0 hw0⊢;have q0:=hA0.c0;have HB0:Hid (RCiv.inB (p.nm.length:Int) 1 16=decide (1≤p.nm.length∧p.nm.length≤16)):=inB_len _;generalize hb0:RCiv.inB (p.nm.length:Int) 1 16=b0 at HB0⊢;clear hb0;go_loopw [3,4] (fun ok i wr=>RnR p.nm b0 W0 ok i wr) (fun _ i _=>p.nm.length-(intOf i).toNat)
  case atStart=>exact⟨0,Xx _,rfl,by simp,rfl⟩
  case round=>
    obtain⟨k,hk1,rfl,rfl,h9⟩:=hrel;have h8:=h9.symm;clear h9;subst h8;by_cases hlt:k<p.nm.length
    · have hlt':(k:Int)<p.nm.length:=by omega
      obtain⟨x,hx⟩: ∃x,p.nm[k]? =some x:=⟨p.nm[k],by simp [hlt]⟩
      have hxk:(⟨p.nm.toArray⟩:ByteArray)[k]'(by rw [hsz];exact hlt)=x:=by
        have:p.nm[k]=x:=by simpa [hlt]using hx
        exact this
      have HT:Hid ((p.nm.take (k+1)).all nmC=((p.nm.take k).all nmC&&nmC x)):=by unfold Hid;rw [XB,hx,List.all_append];simp
      have hxu:(x.toNat:Int)≤255:=by have:=x.toNat_lt;omega
      have hx0:0≤(x.toNat:Int):=(by omega);clear hx;generalize hB:(b0&&(p.nm.take k).all nmC)=B at*;have HB:=zh hB;clear hB;cases B
      · have HR:Hid (RnR p.nm b0 W0 (.bool false) (.int .i64 (((k+1:Nat)):Int)) W0):=⟨k+1,by omega,rfl,by rw [HT.out,←Bool.and_assoc,HB.out];rfl,rfl⟩
        go_wp2;go_roundw
        case rel=>exact HR.out
        case measure=>simp [intOf];omega
      · rcases nmC_cases x with⟨hn0,hq⟩|⟨hn0,hq⟩
        · have HR:Hid (RnR p.nm b0 W0 (.bool true) (.int .i64 (((k+1:Nat)):Int)) W0):=⟨k+1,by omega,rfl,by rw [HT.out,←Bool.and_assoc,HB.out,hn0];rfl,rfl⟩
          clear hn0;rcases hq with hq|hq|hq
          all_goals
            go_wp2;go_roundw
            case rel=>exact HR.out
            case measure=>simp [intOf];omega
        · have HR:Hid (RnR p.nm b0 W0 (.bool false) (.int .i64 (((k+1:Nat)):Int)) W0):=⟨k+1,by omega,rfl,by rw [HT.out,←Bool.and_assoc,HB.out,hn0];rfl,rfl⟩
          have hne:((x.toNat:Int)==45)=false:=by rw [beq_eq_false_iff_ne];omega
          clear hn0;rcases hq with hq|hq|hq|hq
          all_goals
            go_wp2;go_roundw
            case rel=>first
              |exact HR.out
              |(rw [show decide ((x.toNat:Int)≤57)=false from decide_eq_false (by omega)];exact HR.out)
              |(rw [show decide ((x.toNat:Int)≤122)=false from decide_eq_false (by omega),show decide ((x.toNat:Int)≤57)=false from decide_eq_false (by omega)];exact HR.out)
            case measure=>simp [intOf];omega
    · obtain rfl:k=p.nm.length:=by omega
      have hnm:(b0&&(p.nm.take p.nm.length).all nmC)=nmB p.nm:=by rw [XC,HB0.out];rfl
      rw [hnm];clear hnm HB0;cases h1:nmB p.nm
      · go_wp2
        go_ret;exact⟨ret_n (HC.out.1 h1).symm,hw0⟩
      have q17:=hA0.c17;by_cases h2:5<ts.length
      · have h2':(5:Int)<ts.length:=by omega
        go_wp2;go_ret;exact⟨ret_n (HC.out.2.1 h1 h2).symm,hw0⟩
      have h2': ¬(5:Int)<ts.length:=(by omega);have HM:Hid (nmB p.nm=true∧ ¬5<ts.length):=⟨h1,h2⟩
      obtain⟨-,c1,c2,c3,c4,c5,c6,c7,c8,c9,c10,c11,c12,c13,c14,c15,c16,-⟩:=id hA0;rcases num_all p with⟨hn,i1|⟨i1,i2⟩|⟨i1,i2,i3⟩|⟨i1,i2,i3,i4⟩|⟨i1,i2,i3,i4,i5⟩|⟨i1,i2,i3,i4,i5,i6⟩|⟨i1,i2,i3,i4,i5,i6,i7⟩|⟨i1,i2,i3,i4,i5,i6,i7,i8⟩|⟨i1,i2,i3,i4,i5,i6,i7,i8,i9⟩⟩|⟨hn,i1,i2,i3,i4,i5,i6,i7,i8,i9⟩
      all_goals
        have HNB:=zh hn;clear hn
        go_wp2_with (first
          |(go_at_call 6;(with_reducible refine zq (cI _ _ _ _) ?_)))
        clear c1 c2 c3 c4 c5 c6 c7 c8 c9 c10 c11 c12 c13 c14 c15 c16 q17;have hD0:=Pc2.new W0 p 23;have hA1:=hA0.on (balloc (.cells #[.int .i64 p.uw,.int .i64 p.up,.int .i64 p.uc,.int .i64 p.ue,.int .i64 p.dw,.int .i64 p.dp,.int .i64 p.dc,.int .i64 p.de] 23)) hz0;have hw1:Below w.heap.size w (W0.alloc (.cells #[.int .i64 p.uw,.int .i64 p.up,.int .i64 p.uc,.int .i64 p.ue,.int .i64 p.dw,.int .i64 p.dp,.int .i64 p.dc,.int .i64 p.de] 23)):=hw0.alloc hw0.size _;have hz1:W0.heap.size<(W0.alloc (.cells #[.int .i64 p.uw,.int .i64 p.up,.int .i64 p.uc,.int .i64 p.ue,.int .i64 p.dw,.int .i64 p.dp,.int .i64 p.dc,.int .i64 p.de] 23)).heap.size:=(by simp);generalize W0.alloc (.cells #[.int .i64 p.uw,.int .i64 p.up,.int .i64 p.uc,.int .i64 p.ue,.int .i64 p.dw,.int .i64 p.dp,.int .i64 p.dc,.int .i64 p.de] 23)=W1 at hD0 hA1 hw1 hz1⊢;generalize hDD:W0.heap.size=D at*;have hwD:w.heap.size<D:=(by omega);clear hDD hA0 hw0 q0;go_loopw [3,104] (fun ok i wr=>PcR p (.slice a ts.length cap) (numB p) D w ok i wr) (fun _ i _=>2-(intOf i).toNat)
        case atStart=>exact⟨0,by omega,rfl,by rw [show okK (numB p) p 0=numB p from rfl,HNB.out],hA1,hD0,hz1,hw1⟩
        case round=>
          clear hA1 hD0 hz1 hw1;obtain⟨k,hk2,rfl,rfl,hA,hD,hzD,hbw⟩:=hrel;have stp: ∀o,PlAt (wr.alloc o) w.heap.size p (.slice a ts.length cap)∧Pc2 (wr.alloc o) D p∧D<(wr.alloc o).heap.size∧Below w.heap.size w (wr.alloc o):=fun o=>⟨hA.on (balloc o) (by omega),hD.on (balloc o) hzD,by simp;omega,hbw.alloc hbw.size _⟩
          have HS:=zh stp;clear stp;have h3:k=0∨k=1∨k=2:=(by omega);rcases h3 with rfl|rfl|rfl
          · obtain⟨d0,d1,d2,d3,-,-,-,-⟩:=hD
            have HK:Hid (okK (numB p) p 1=(okK (numB p) p 0&&paceB p.uw p.up p.uc p.ue)):=rfl;have HK0:Hid (okK (numB p) p 0=_):=HNB.out;rw [HK0.out]at HK⊢
            go_wp2_with (first
              |(go_at_call 6;(with_reducible refine zq (cI _ _ _ _) ?_)))
            all_goals
              go_roundw
              case rel=>exact⟨1,by omega,rfl,by rw [HK.out];simp [paceB,←inB_rg, *],HS.out _⟩
              case measure=>simp [intOf]
          · obtain⟨-,-,-,-,d4,d5,d6,d7⟩:=hD
            have HK:Hid (okK (numB p) p 2=(okK (numB p) p 1&&paceB p.dw p.dp p.dc p.de)):=rfl;have HQ:okK (numB p) p 1=false∨numB p=true:=by
              cases h:numB p
              · exact Or.inl rfl
              · exact Or.inr rfl
            generalize okK (numB p) p 1=B at HK HQ⊢;cases B;all_goals(try(rcases HQ with e|e;cases e;have e2:=HNB.out;rw [e2]at e;cases e;done))
            all_goals clear HQ
            all_goals
              go_wp2_with (first
                |(go_at_call 6;(with_reducible refine zq (cI _ _ _ _) ?_)))
              all_goals
                go_roundw
                case rel=>exact⟨2,by omega,rfl,by rw [HK.out];simp [paceB,←inB_rg, *],HS.out _⟩
                case measure=>simp [intOf]
          · clear HS hD
            have HO:Hid (okK (numB p) p 2=okP p):=Bool.and_assoc _ _ _;rw [HO.out];cases h3:okP p
            · go_wp2
              go_ret;exact⟨ret_n (HC.out.2.2 HM.out.1 HM.out.2 h3).symm,hbw⟩
            have HOK:=zh h3;(try(exfalso;have e:=HNB.out;unfold okP at h3;rw [e]at h3;cases h3;done))
            all_goals
              clear h3;have hzw:w.heap.size<wr.heap.size:=(by omega);clear hzD hk2;have hA7:=hA;have hbw7:=hbw;have hzw7:=hzw;have q17:=hA.c17;clear hA hbw hzw;go_wp2_with fail
              clear q17;go_loopw [8] (fun i wr=>RtR ts p (.slice a ts.length cap) w i wr) (fun i _=>ts.length-(intOf i).toNat)
              case atStart=>exact⟨0,Xx _,rfl,(fun j x hj=>absurd hj (by omega)),hA7,hbw7,hzw7⟩
              case round=>
                clear hA7 hbw7 hzw7;obtain⟨k,hk1,rfl,hd0,hA,hbw,hzw⟩:=hrel;have HD:=zh hd0;clear hd0;have q17:=hA.c17;by_cases hlt:k<ts.length
                · have hlt':(k:Int)<ts.length:=by omega
                  obtain⟨t,hx⟩: ∃x,ts[k]? =some x:=⟨ts[k],by simp [hlt]⟩
                  obtain⟨b,off,rfl,hbl,hE⟩:=(hT.below hbw (Xa _)).elem hx;have hN:=TrAt.new wr t 84;have ut:=hU t (Xk hx);have cS:=fun w=>rspan_any t.a t.b w ut.a ut.b;have HX:=zh hx;have HN:Hid (Below w.heap.size w (wr.alloc (.cells (trC t) 84))∧PlAt (wr.alloc (.cells (trC t) 84)) w.heap.size p (.slice (some ⟨b,off,none⟩) ts.length cap)∧w.heap.size<(wr.alloc (.cells (trC t) 84)).heap.size):=⟨hbw.alloc hbw.size _,hA.on (balloc _) hzw,by simp;omega⟩
                  clear hx hT hU ut;obtain⟨tk,tg,ac,ka,kb⟩:=t;dsimp only at cS;cases ht:trB ⟨tk,tg,ac,ka,kb⟩
                  · have HR:Hid (chkP p ts=1):=chk_bad HM.out.1 HM.out.2 HOK.out HX.out ht
                    clear HD;by_cases k3:tk=3
                    · subst k3
                      by_cases g1:RCiv.inB tg 1 50=true
                      · by_cases g2:ac=0
                        · subst g2
                          have g3: ¬(kc ka=true∧kc kb=true):=fun q=>by
                            unfold trB at ht;dsimp only at ht;rw [if_pos rfl,show rg tg 1 50=true from g1,q.1,q.2]at ht;cases ht
                          rw [if_neg g3]at cS;clear ht g3
                          go_wp2_with (first
                            |(with_reducible refine wp_tr hE (by with_unfolding_all rfl) ?_)
                            |(with_reducible refine wp_newTr hN (by with_unfolding_all rfl) (by with_unfolding_all rfl) ?_)
                            |(with_reducible refine wp_tr hN (by with_unfolding_all rfl) ?_)
                            |(with_reducible refine wp_span hN (by with_unfolding_all rfl) ?_)
                            |(with_reducible refine wp_spanG hN (by with_unfolding_all rfl) (by with_unfolding_all rfl) ?_)
                            |(go_at_call 6;(with_reducible refine zq (cI _ _ _ _) ?_))
                            |(go_at_call 17;(with_reducible refine zg (cS _) fun w5 hb5=>?_)))
                          go_ret;exact⟨ret_n HR.out.symm,(zu HN.out.1 hb5)⟩
                        · have g2':(ac !=0)=true:=by rw [bne_iff_ne];exact g2
                          clear ht
                          go_wp2_with (first
                            |(with_reducible refine wp_tr hE (by with_unfolding_all rfl) ?_)
                            |(with_reducible refine wp_newTr hN (by with_unfolding_all rfl) (by with_unfolding_all rfl) ?_)
                            |(with_reducible refine wp_tr hN (by with_unfolding_all rfl) ?_)
                            |(with_reducible refine wp_span hN (by with_unfolding_all rfl) ?_)
                            |(with_reducible refine wp_spanG hN (by with_unfolding_all rfl) (by with_unfolding_all rfl) ?_)
                            |(go_at_call 6;(with_reducible refine zq (cI _ _ _ _) ?_))
                            |(go_at_call 17;(with_reducible refine zg (cS _) fun w5 hb5=>?_)))
                          go_ret;exact⟨ret_n HR.out.symm,HN.out.1⟩
                      · have g1':RCiv.inB tg 1 50=false:=by simpa using g1
                        clear ht g1
                        go_wp2_with (first
                          |(with_reducible refine wp_tr hE (by with_unfolding_all rfl) ?_)
                          |(with_reducible refine wp_newTr hN (by with_unfolding_all rfl) (by with_unfolding_all rfl) ?_)
                          |(with_reducible refine wp_tr hN (by with_unfolding_all rfl) ?_)
                          |(with_reducible refine wp_span hN (by with_unfolding_all rfl) ?_)
                          |(with_reducible refine wp_spanG hN (by with_unfolding_all rfl) (by with_unfolding_all rfl) ?_)
                          |(go_at_call 6;(with_reducible refine zq (cI _ _ _ _) ?_))
                          |(go_at_call 17;(with_reducible refine zg (cS _) fun w5 hb5=>?_)))
                        go_ret;exact⟨ret_n HR.out.symm,HN.out.1⟩
                    · by_cases k12:tk=1∨tk=2
                      · have d12:Hid (rg tg 1 1000000=true→rg ac 0 1000000=true→zK ka=true→zK kb=true→False):=fun q1 q2 q3 q4=>by
                          unfold trB at ht;dsimp only at ht;rw [if_neg k3,q1,q2,q3,q4]at ht;rcases k12 with rfl|rfl<;>cases ht
                        clear ht;obtain⟨a0,a1,a2,a3,a4,a5,a6⟩:=ka;obtain⟨b0',b1,b2,b3,b4,b5,b6⟩:=kb;rcases k12 with rfl|rfl
                        all_goals
                          go_wp2_with (first
                            |(with_reducible refine wp_tr hE (by with_unfolding_all rfl) ?_)
                            |(with_reducible refine wp_newTr hN (by with_unfolding_all rfl) (by with_unfolding_all rfl) ?_)
                            |(with_reducible refine wp_tr hN (by with_unfolding_all rfl) ?_)
                            |(with_reducible refine wp_span hN (by with_unfolding_all rfl) ?_)
                            |(with_reducible refine wp_spanG hN (by with_unfolding_all rfl) (by with_unfolding_all rfl) ?_)
                            |(go_at_call 6;(with_reducible refine zq (cI _ _ _ _) ?_))
                            |(go_at_call 17;(with_reducible refine zg (cS _) fun w5 hb5=>?_)))
                          all_goals first
                            | (go_ret
                               exact⟨ret_n HR.out.symm,hbw.alloc hbw.size _⟩)
                            | (exfalso
                               refine d12.out ?_ ?_ ?_ ?_;all_goals simp [zK,←inB_rg, *])
                      · have h3':(tk==3)=false:=by rw [beq_eq_false_iff_ne];exact k3
                        have e1:(tk !=1)=true:=by rw [bne_iff_ne];exact fun e=>k12 (Or.inl e)
                        have e2:(tk !=2)=true:=by rw [bne_iff_ne];exact fun e=>k12 (Or.inr e)
                        clear ht
                        go_wp2_with (first
                          |(with_reducible refine wp_tr hE (by with_unfolding_all rfl) ?_)
                          |(with_reducible refine wp_newTr hN (by with_unfolding_all rfl) (by with_unfolding_all rfl) ?_)
                          |(with_reducible refine wp_tr hN (by with_unfolding_all rfl) ?_)
                          |(with_reducible refine wp_span hN (by with_unfolding_all rfl) ?_)
                          |(with_reducible refine wp_spanG hN (by with_unfolding_all rfl) (by with_unfolding_all rfl) ?_)
                          |(go_at_call 6;(with_reducible refine zq (cI _ _ _ _) ?_))
                          |(go_at_call 17;(with_reducible refine zg (cS _) fun w5 hb5=>?_)))
                        go_ret;exact⟨ret_n HR.out.symm,HN.out.1⟩
                  · have HD2:Hid (∀j t,j<k+1→ts[j]? =some t→trB t=true):=fun j y hj hy=>by
                      by_cases e:j=k
                      · subst e;rw [HX.out]at hy;cases hy;exact ht
                      · exact HD.out j y (by omega) hy
                    clear HD;by_cases h3:tk=3
                    · subst h3
                      obtain⟨g1,g2,g3,g4⟩:rg tg 1 50=true∧ac=0∧kc ka=true∧kc kb=true:=by
                        unfold trB at ht;dsimp only at ht;rw [if_pos rfl]at ht;simpa only [Xq,decide_eq_true_eq]using ht
                      replace g1:RCiv.inB tg 1 50=true:=g1;rw [if_pos ⟨g3,g4⟩]at cS;subst g2;clear ht g3 g4
                      go_wp2_with (first
                        |(with_reducible refine wp_tr hE (by with_unfolding_all rfl) ?_)
                        |(with_reducible refine wp_newTr hN (by with_unfolding_all rfl) (by with_unfolding_all rfl) ?_)
                        |(with_reducible refine wp_tr hN (by with_unfolding_all rfl) ?_)
                        |(with_reducible refine wp_span hN (by with_unfolding_all rfl) ?_)
                        |(with_reducible refine wp_spanG hN (by with_unfolding_all rfl) (by with_unfolding_all rfl) ?_)
                        |(go_at_call 6;(with_reducible refine zq (cI _ _ _ _) ?_))
                        |(go_at_call 17;(with_reducible refine zg (cS _) fun w5 hb5=>?_)))
                      refine⟨?_,?measure⟩;(repeat apply Exists.intro);refine⟨?rel,rfl⟩
                      case rel=>exact⟨k+1,by omega,rfl,HD2.out,HN.out.2.1.on hb5 HN.out.2.2,(zu HN.out.1 hb5),Xb HN.out.2.2 hb5.size⟩
                      case measure=>simp [intOf];omega
                    · have h3':(tk==3)=false:=by rw [beq_eq_false_iff_ne];exact h3
                      obtain⟨h12,g1,g2,g3,g4⟩:(tk=1∨tk=2)∧rg tg 1 1000000=true∧rg ac 0 1000000=true∧zK ka=true∧zK kb=true:=by
                        unfold trB at ht;dsimp only at ht;rw [if_neg h3]at ht;simpa only [Xq,decide_eq_true_eq]using ht
                      replace g1:RCiv.inB tg 1 1000000=true:=g1;replace g2:RCiv.inB ac 0 1000000=true:=g2;have e1:=zK_is' g3;have e2:=zK_is' g4;subst e1 e2;clear ht g3 g4;rcases h12 with rfl|rfl
                      all_goals
                        go_wp2_with (first
                          |(with_reducible refine wp_tr hE (by with_unfolding_all rfl) ?_)
                          |(with_reducible refine wp_newTr hN (by with_unfolding_all rfl) (by with_unfolding_all rfl) ?_)
                          |(with_reducible refine wp_tr hN (by with_unfolding_all rfl) ?_)
                          |(with_reducible refine wp_span hN (by with_unfolding_all rfl) ?_)
                          |(with_reducible refine wp_spanG hN (by with_unfolding_all rfl) (by with_unfolding_all rfl) ?_)
                          |(go_at_call 6;(with_reducible refine zq (cI _ _ _ _) ?_))
                          |(go_at_call 17;(with_reducible refine zg (cS _) fun w5 hb5=>?_)))
                        refine⟨?_,?measure⟩;(repeat apply Exists.intro);refine⟨?rel,rfl⟩
                        case rel=>exact⟨k+1,by omega,rfl,HD2.out,HN.out.2.1,HN.out.1,HN.out.2.2⟩
                        case measure=>simp [intOf];omega
                · obtain rfl:k=ts.length:=by omega
                  have HR:Hid (chkP p ts=0):=chk_good HM.out.1 HM.out.2 HOK.out HD.out;clear hT;go_wp2;go_ret;exact⟨ret_n HR.out.symm,hbw⟩
