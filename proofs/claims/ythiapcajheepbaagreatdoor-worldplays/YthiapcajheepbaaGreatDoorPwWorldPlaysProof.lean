/- Proved: for every plan, numbers and list of happenings: a world does what the document says, happening by happening. -/
import Derived.OpenShut
import Derived.ShutString
import Derived.LaidMore
import Derived.SevenTiedAt
import Derived.Test.YthiapcajheepbaaGreatDoorCards
import Derived.Test.YthiapcajheepbaaGreatDoorTie
import Derived.Test.YthiapcajheepbaaGreatDoorPwGlbSame
set_option linter.all false
open Go.Proofs.Tryz
set_option maxRecDepth 8000
namespace Go.Proofs.YthiapcajheepbaaGreatDoor.worldPlays
open Go.ChangeShapes Go.WideShapes Go.ChangeAt Go.RowKit
set_option linter.unusedVariables false

theorem own:ownKnob Tryz.prog.godebug=none:=by kernel_rfl
theorem laidOut:laidOutB Tryz.prog=true:=by kernel_rfl

theorem leafy3 {H:Type} {enc:TypeId×Value→H} {w:World} {base:Nat} {spare:Nat→Bool} {held:Bool} :Frm.Leafy enc Tryz.prog w base spare held 3 [.i64]:=Frm.leafy_i64 Tryz.underlying3
theorem leafy78 {H:Type} {enc:TypeId×Value→H} {w:World} {base:Nat} {spare:Nat→Bool} {held:Bool} :Frm.Leafy enc Tryz.prog w base spare held 78 [.u64]:=Frm.leafy_u64 Tryz.underlying78
theorem leafy4 {H:Type} {enc:TypeId×Value→H} {w:World} {base:Nat} {spare:Nat→Bool} {held:Bool} :Frm.Leafy enc Tryz.prog w base spare held 4 [.bool]:=Frm.leafy_bool Tryz.underlying4
theorem leafy80 {H:Type} {enc:TypeId×Value→H} {w:World} {base:Nat} {spare:Nat→Bool} {held:Bool} :Frm.Leafy enc Tryz.prog w base spare held 80 [.u64,.u64,.u64,.u64,.u64,.bool,.bool]:=by
 refine Frm.leafy_struct Tryz.underlying80 fun j k hk=> ?_;match j,hk with
 |0,hk=>simp at hk;subst hk;exact⟨0,_,0,[.u64],rfl,rfl,rfl,leafy78⟩
 |1,hk=>simp at hk;subst hk;exact⟨1,_,0,[.u64],rfl,rfl,rfl,leafy78⟩
 |2,hk=>simp at hk;subst hk;exact⟨2,_,0,[.u64],rfl,rfl,rfl,leafy78⟩
 |3,hk=>simp at hk;subst hk;exact⟨3,_,0,[.u64],rfl,rfl,rfl,leafy78⟩
 |4,hk=>simp at hk;subst hk;exact⟨4,_,0,[.u64],rfl,rfl,rfl,leafy78⟩
 |5,hk=>simp at hk;subst hk;exact⟨5,_,0,[.bool],rfl,rfl,rfl,leafy4⟩
 |6,hk=>simp at hk;subst hk;exact⟨6,_,0,[.bool],rfl,rfl,rfl,leafy4⟩
 |j+7,hk=>simp at hk
theorem leafy82 {H:Type} {enc:TypeId×Value→H} {w:World} {base:Nat} {spare:Nat→Bool} {held:Bool} :Frm.Leafy enc Tryz.prog w base spare held 82 [.u64,.u64,.u64,.u64,.u64,.bool,.bool,.u64,.u64,.u64,.u64,.u64,.bool,.bool]:=by
 refine Frm.leafy_struct Tryz.underlying82 fun j k hk=> ?_;match j,hk with
 |0,hk=>simp at hk;subst hk;exact⟨0,_,0,[.u64,.u64,.u64,.u64,.u64,.bool,.bool],rfl,rfl,rfl,leafy80⟩
 |1,hk=>simp at hk;subst hk;exact⟨0,_,1,[.u64,.u64,.u64,.u64,.u64,.bool,.bool],rfl,rfl,rfl,leafy80⟩
 |2,hk=>simp at hk;subst hk;exact⟨0,_,2,[.u64,.u64,.u64,.u64,.u64,.bool,.bool],rfl,rfl,rfl,leafy80⟩
 |3,hk=>simp at hk;subst hk;exact⟨0,_,3,[.u64,.u64,.u64,.u64,.u64,.bool,.bool],rfl,rfl,rfl,leafy80⟩
 |4,hk=>simp at hk;subst hk;exact⟨0,_,4,[.u64,.u64,.u64,.u64,.u64,.bool,.bool],rfl,rfl,rfl,leafy80⟩
 |5,hk=>simp at hk;subst hk;exact⟨0,_,5,[.u64,.u64,.u64,.u64,.u64,.bool,.bool],rfl,rfl,rfl,leafy80⟩
 |6,hk=>simp at hk;subst hk;exact⟨0,_,6,[.u64,.u64,.u64,.u64,.u64,.bool,.bool],rfl,rfl,rfl,leafy80⟩
 |7,hk=>simp at hk;subst hk;exact⟨1,_,0,[.u64,.u64,.u64,.u64,.u64,.bool,.bool],rfl,rfl,rfl,leafy80⟩
 |8,hk=>simp at hk;subst hk;exact⟨1,_,1,[.u64,.u64,.u64,.u64,.u64,.bool,.bool],rfl,rfl,rfl,leafy80⟩
 |9,hk=>simp at hk;subst hk;exact⟨1,_,2,[.u64,.u64,.u64,.u64,.u64,.bool,.bool],rfl,rfl,rfl,leafy80⟩
 |10,hk=>simp at hk;subst hk;exact⟨1,_,3,[.u64,.u64,.u64,.u64,.u64,.bool,.bool],rfl,rfl,rfl,leafy80⟩
 |11,hk=>simp at hk;subst hk;exact⟨1,_,4,[.u64,.u64,.u64,.u64,.u64,.bool,.bool],rfl,rfl,rfl,leafy80⟩
 |12,hk=>simp at hk;subst hk;exact⟨1,_,5,[.u64,.u64,.u64,.u64,.u64,.bool,.bool],rfl,rfl,rfl,leafy80⟩
 |13,hk=>simp at hk;subst hk;exact⟨1,_,6,[.u64,.u64,.u64,.u64,.u64,.bool,.bool],rfl,rfl,rfl,leafy80⟩
 |j+14,hk=>simp at hk
theorem leafy84 {H:Type} {enc:TypeId×Value→H} {w:World} {base:Nat} {spare:Nat→Bool} {held:Bool} :Frm.Leafy enc Tryz.prog w base spare held 84 [.i64,.i64,.i64,.u64,.u64,.u64,.u64,.u64,.bool,.bool,.u64,.u64,.u64,.u64,.u64,.bool,.bool]:=by
 refine Frm.leafy_struct Tryz.underlying84 fun j k hk=> ?_;match j,hk with
 |0,hk=>simp at hk;subst hk;exact⟨0,_,0,[.i64],rfl,rfl,rfl,leafy3⟩
 |1,hk=>simp at hk;subst hk;exact⟨1,_,0,[.i64],rfl,rfl,rfl,leafy3⟩
 |2,hk=>simp at hk;subst hk;exact⟨2,_,0,[.i64],rfl,rfl,rfl,leafy3⟩
 |3,hk=>simp at hk;subst hk;exact⟨3,_,0,[.u64,.u64,.u64,.u64,.u64,.bool,.bool,.u64,.u64,.u64,.u64,.u64,.bool,.bool],rfl,rfl,rfl,leafy82⟩
 |4,hk=>simp at hk;subst hk;exact⟨3,_,1,[.u64,.u64,.u64,.u64,.u64,.bool,.bool,.u64,.u64,.u64,.u64,.u64,.bool,.bool],rfl,rfl,rfl,leafy82⟩
 |5,hk=>simp at hk;subst hk;exact⟨3,_,2,[.u64,.u64,.u64,.u64,.u64,.bool,.bool,.u64,.u64,.u64,.u64,.u64,.bool,.bool],rfl,rfl,rfl,leafy82⟩
 |6,hk=>simp at hk;subst hk;exact⟨3,_,3,[.u64,.u64,.u64,.u64,.u64,.bool,.bool,.u64,.u64,.u64,.u64,.u64,.bool,.bool],rfl,rfl,rfl,leafy82⟩
 |7,hk=>simp at hk;subst hk;exact⟨3,_,4,[.u64,.u64,.u64,.u64,.u64,.bool,.bool,.u64,.u64,.u64,.u64,.u64,.bool,.bool],rfl,rfl,rfl,leafy82⟩
 |8,hk=>simp at hk;subst hk;exact⟨3,_,5,[.u64,.u64,.u64,.u64,.u64,.bool,.bool,.u64,.u64,.u64,.u64,.u64,.bool,.bool],rfl,rfl,rfl,leafy82⟩
 |9,hk=>simp at hk;subst hk;exact⟨3,_,6,[.u64,.u64,.u64,.u64,.u64,.bool,.bool,.u64,.u64,.u64,.u64,.u64,.bool,.bool],rfl,rfl,rfl,leafy82⟩
 |10,hk=>simp at hk;subst hk;exact⟨3,_,7,[.u64,.u64,.u64,.u64,.u64,.bool,.bool,.u64,.u64,.u64,.u64,.u64,.bool,.bool],rfl,rfl,rfl,leafy82⟩
 |11,hk=>simp at hk;subst hk;exact⟨3,_,8,[.u64,.u64,.u64,.u64,.u64,.bool,.bool,.u64,.u64,.u64,.u64,.u64,.bool,.bool],rfl,rfl,rfl,leafy82⟩
 |12,hk=>simp at hk;subst hk;exact⟨3,_,9,[.u64,.u64,.u64,.u64,.u64,.bool,.bool,.u64,.u64,.u64,.u64,.u64,.bool,.bool],rfl,rfl,rfl,leafy82⟩
 |13,hk=>simp at hk;subst hk;exact⟨3,_,10,[.u64,.u64,.u64,.u64,.u64,.bool,.bool,.u64,.u64,.u64,.u64,.u64,.bool,.bool],rfl,rfl,rfl,leafy82⟩
 |14,hk=>simp at hk;subst hk;exact⟨3,_,11,[.u64,.u64,.u64,.u64,.u64,.bool,.bool,.u64,.u64,.u64,.u64,.u64,.bool,.bool],rfl,rfl,rfl,leafy82⟩
 |15,hk=>simp at hk;subst hk;exact⟨3,_,12,[.u64,.u64,.u64,.u64,.u64,.bool,.bool,.u64,.u64,.u64,.u64,.u64,.bool,.bool],rfl,rfl,rfl,leafy82⟩
 |16,hk=>simp at hk;subst hk;exact⟨3,_,13,[.u64,.u64,.u64,.u64,.u64,.bool,.bool,.u64,.u64,.u64,.u64,.u64,.bool,.bool],rfl,rfl,rfl,leafy82⟩
 |j+17,hk=>simp at hk
theorem countE84:Tryz.prog.cellsOf 84=17:=by kernel_rfl
theorem countS24:Tryz.prog.cellsOf 24=1:=by kernel_rfl
theorem cells26:Tryz.prog.cellTypes Tryz.prog.depth 26=some [9,3,3,3,3,3,3,3,3,3,3,3,3,3,3,3,3,24]:=by kernel_rfl
theorem count26:Tryz.prog.cellsOf 26=18:=by kernel_rfl
theorem list18of26 {cs:List Value} (h:cs.length=18): ∃c0 c1 c2 c3 c4 c5 c6 c7 c8 c9 c10 c11 c12 c13 c14 c15 c16 c17,cs=[c0,c1,c2,c3,c4,c5,c6,c7,c8,c9,c10,c11,c12,c13,c14,c15,c16,c17]:=by
 match cs,h with| [c0,c1,c2,c3,c4,c5,c6,c7,c8,c9,c10,c11,c12,c13,c14,c15,c16,c17],_=>exact⟨c0,c1,c2,c3,c4,c5,c6,c7,c8,c9,c10,c11,c12,c13,c14,c15,c16,c17,rfl⟩
theorem open26 {W:World} {r:Reach} {base:Nat} {v:Value} (h:Value.okWide Tryz.prog W r base 26 v) {H:Type} {enc:TypeId×Value→H} {spare:Nat→Bool} {held:Bool} {d:DataW H} {p:List MemPlace} (h2:DataW.Trod enc Tryz.prog W 0 spare held 26 v d p):
  ∃(f0:ByteArray) (f1:Int) (f2:Int) (f3:Int) (f4:Int) (f5:Int) (f6:Int) (f7:Int) (f8:Int) (f9:Int) (f10:Int) (f11:Int) (f12:Int) (f13:Int) (f14:Int) (f15:Int) (f16:Int) (f17:Option Addr) (f17_len f17_cap:Nat) (f17_X:Nat→Nat→Value),v=.agg #[.string f0,.int .i64 f1,.int .i64 f2,.int .i64 f3,.int .i64 f4,.int .i64 f5,.int .i64 f6,.int .i64 f7,.int .i64 f8,.int .i64 f9,.int .i64 f10,.int .i64 f11,.int .i64 f12,.int .i64 f13,.int .i64 f14,.int .i64 f15,.int .i64 f16,.slice f17 f17_len f17_cap]∧(f0.size:Int)≤9223372036854775807∧(-9223372036854775808≤f1∧f1≤9223372036854775807)∧(-9223372036854775808≤f2∧f2≤9223372036854775807)∧(-9223372036854775808≤f3∧f3≤9223372036854775807)∧(-9223372036854775808≤f4∧f4≤9223372036854775807)∧(-9223372036854775808≤f5∧f5≤9223372036854775807)∧(-9223372036854775808≤f6∧f6≤9223372036854775807)∧(-9223372036854775808≤f7∧f7≤9223372036854775807)∧(-9223372036854775808≤f8∧f8≤9223372036854775807)∧(-9223372036854775808≤f9∧f9≤9223372036854775807)∧(-9223372036854775808≤f10∧f10≤9223372036854775807)∧(-9223372036854775808≤f11∧f11≤9223372036854775807)∧(-9223372036854775808≤f12∧f12≤9223372036854775807)∧(-9223372036854775808≤f13∧f13≤9223372036854775807)∧(-9223372036854775808≤f14∧f14≤9223372036854775807)∧(-9223372036854775808≤f15∧f15≤9223372036854775807)∧(-9223372036854775808≤f16∧f16≤9223372036854775807)∧(f17_len≤f17_cap∧f17_cap≤maxLen∧Frm.CellsIn W f17 f17_len 17 f17_X∧Frm.LeavesIn f17_len [.i64,.i64,.i64,.u64,.u64,.u64,.u64,.u64,.bool,.bool,.u64,.u64,.u64,.u64,.u64,.bool,.bool] f17_X):=by
 obtain⟨cs,rfl,hn,hc⟩:=Frm.agg_cells Tryz.underlying26 cells26 (by rw [count26];rfl) h;obtain⟨c0,c1,c2,c3,c4,c5,c6,c7,c8,c9,c10,c11,c12,c13,c14,c15,c16,c17,rfl⟩:=list18of26 hn;obtain⟨f0,rfl,g0⟩:=Frm.cell_string Tryz.underlying9 (hc 0 _ _ rfl rfl);obtain⟨f1,rfl,g1⟩:=Frm.cell_int Tryz.underlying3 (hc 1 _ _ rfl rfl);obtain⟨f2,rfl,g2⟩:=Frm.cell_int Tryz.underlying3 (hc 2 _ _ rfl rfl);obtain⟨f3,rfl,g3⟩:=Frm.cell_int Tryz.underlying3 (hc 3 _ _ rfl rfl);obtain⟨f4,rfl,g4⟩:=Frm.cell_int Tryz.underlying3 (hc 4 _ _ rfl rfl);obtain⟨f5,rfl,g5⟩:=Frm.cell_int Tryz.underlying3 (hc 5 _ _ rfl rfl);obtain⟨f6,rfl,g6⟩:=Frm.cell_int Tryz.underlying3 (hc 6 _ _ rfl rfl);obtain⟨f7,rfl,g7⟩:=Frm.cell_int Tryz.underlying3 (hc 7 _ _ rfl rfl);obtain⟨f8,rfl,g8⟩:=Frm.cell_int Tryz.underlying3 (hc 8 _ _ rfl rfl);obtain⟨f9,rfl,g9⟩:=Frm.cell_int Tryz.underlying3 (hc 9 _ _ rfl rfl);obtain⟨f10,rfl,g10⟩:=Frm.cell_int Tryz.underlying3 (hc 10 _ _ rfl rfl);obtain⟨f11,rfl,g11⟩:=Frm.cell_int Tryz.underlying3 (hc 11 _ _ rfl rfl);obtain⟨f12,rfl,g12⟩:=Frm.cell_int Tryz.underlying3 (hc 12 _ _ rfl rfl);obtain⟨f13,rfl,g13⟩:=Frm.cell_int Tryz.underlying3 (hc 13 _ _ rfl rfl);obtain⟨f14,rfl,g14⟩:=Frm.cell_int Tryz.underlying3 (hc 14 _ _ rfl rfl);obtain⟨f15,rfl,g15⟩:=Frm.cell_int Tryz.underlying3 (hc 15 _ _ rfl rfl);obtain⟨f16,rfl,g16⟩:=Frm.cell_int Tryz.underlying3 (hc 16 _ _ rfl rfl);obtain⟨fu17,hf17⟩:=h2;obtain⟨n17,y17,hy17⟩:=Frm.field_open Tryz.underlying26 hf17 (i:=11) rfl;have hz17:DataW.trod enc Tryz.prog W 0 spare held n17 24 [c17]=some y17:=by simpa [Value.cells,countS24]using hy17
 obtain⟨f17,f17_len,f17_cap,f17_X,rfl,g17⟩:=Frm.cells_open Tryz.underlying24 countE84 (by decide) rfl leafy84 hz17;exact⟨f0,f1,f2,f3,f4,f5,f6,f7,f8,f9,f10,f11,f12,f13,f14,f15,f16,f17,f17_len,f17_cap,f17_X,rfl,g0,Frm.bd_i64 g1,Frm.bd_i64 g2,Frm.bd_i64 g3,Frm.bd_i64 g4,Frm.bd_i64 g5,Frm.bd_i64 g6,Frm.bd_i64 g7,Frm.bd_i64 g8,Frm.bd_i64 g9,Frm.bd_i64 g10,Frm.bd_i64 g11,Frm.bd_i64 g12,Frm.bd_i64 g13,Frm.bd_i64 g14,Frm.bd_i64 g15,Frm.bd_i64 g16,g17⟩

theorem count37:Tryz.prog.cellsOf 37=3:=by kernel_rfl
theorem count3w:Tryz.prog.cellsOf 3=1:=by kernel_rfl
open Crn Lai Pln Lop Wld Glb

theorem walk (w:World) (a0_Name:ByteArray) (a0_Min:Int) (a0_Max:Int) (a0_Poll:Int) (a0_Cool:Int) (a0_Tolerance:Int) (a0_Back:Int) (a0_After:Int) (a0_Shift:Int) (a0_Up_Window:Int) (a0_Up_Pods:Int) (a0_Up_Percent:Int) (a0_Up_Period:Int) (a0_Down_Window:Int) (a0_Down_Pods:Int) (a0_Down_Percent:Int) (a0_Down_Period:Int) (a0_Triggers:Option Addr) (a0_Triggers_len a0_Triggers_cap:Nat) (a0_Triggers_X:Nat→Nat→Value) (a1:Int) (a2:Int) (a3:Int) (a4:Option Addr) (a4_len a4_cap:Nat) (a4_X:Nat→Nat→Int) (b0_Name:(a0_Name.size:Int)≤9223372036854775807) (b0_Min:(-9223372036854775808≤a0_Min∧a0_Min≤9223372036854775807)) (b0_Max:(-9223372036854775808≤a0_Max∧a0_Max≤9223372036854775807)) (b0_Poll:(-9223372036854775808≤a0_Poll∧a0_Poll≤9223372036854775807)) (b0_Cool:(-9223372036854775808≤a0_Cool∧a0_Cool≤9223372036854775807)) (b0_Tolerance:(-9223372036854775808≤a0_Tolerance∧a0_Tolerance≤9223372036854775807)) (b0_Back:(-9223372036854775808≤a0_Back∧a0_Back≤9223372036854775807)) (b0_After:(-9223372036854775808≤a0_After∧a0_After≤9223372036854775807)) (b0_Shift:(-9223372036854775808≤a0_Shift∧a0_Shift≤9223372036854775807)) (b0_Up_Window:(-9223372036854775808≤a0_Up_Window∧a0_Up_Window≤9223372036854775807)) (b0_Up_Pods:(-9223372036854775808≤a0_Up_Pods∧a0_Up_Pods≤9223372036854775807)) (b0_Up_Percent:(-9223372036854775808≤a0_Up_Percent∧a0_Up_Percent≤9223372036854775807)) (b0_Up_Period:(-9223372036854775808≤a0_Up_Period∧a0_Up_Period≤9223372036854775807)) (b0_Down_Window:(-9223372036854775808≤a0_Down_Window∧a0_Down_Window≤9223372036854775807)) (b0_Down_Pods:(-9223372036854775808≤a0_Down_Pods∧a0_Down_Pods≤9223372036854775807)) (b0_Down_Percent:(-9223372036854775808≤a0_Down_Percent∧a0_Down_Percent≤9223372036854775807)) (b0_Down_Period:(-9223372036854775808≤a0_Down_Period∧a0_Down_Period≤9223372036854775807)) (b0_Triggers:(a0_Triggers_len≤a0_Triggers_cap∧a0_Triggers_cap≤maxLen∧Frm.CellsIn w a0_Triggers a0_Triggers_len 17 a0_Triggers_X∧Frm.LeavesIn a0_Triggers_len [.i64,.i64,.i64,.u64,.u64,.u64,.u64,.u64,.bool,.bool,.u64,.u64,.u64,.u64,.u64,.bool,.bool] a0_Triggers_X)) (b1:(-9223372036854775808≤a1∧a1≤9223372036854775807)) (b2:(-9223372036854775808≤a2∧a2≤9223372036854775807)) (b3:(-9223372036854775808≤a3∧a3≤9223372036854775807)) (b4_le:a4_len≤a4_cap) (b4_max:a4_cap≤maxLen) (b4:Frm.RowsIn w a4 a4_len 3 a4_X) (hB:Lai.BdsAt w):
  Calls Tryz.prog 3 #[.agg #[.string a0_Name,.int .i64 a0_Min,.int .i64 a0_Max,.int .i64 a0_Poll,.int .i64 a0_Cool,.int .i64 a0_Tolerance,.int .i64 a0_Back,.int .i64 a0_After,.int .i64 a0_Shift,.int .i64 a0_Up_Window,.int .i64 a0_Up_Pods,.int .i64 a0_Up_Percent,.int .i64 a0_Up_Period,.int .i64 a0_Down_Window,.int .i64 a0_Down_Pods,.int .i64 a0_Down_Percent,.int .i64 a0_Down_Period,.slice a0_Triggers a0_Triggers_len a0_Triggers_cap],.int .i64 a1,.int .i64 a2,.int .i64 a3,.slice a4 a4_len a4_cap] w fun e w'=>e=.returned (.bool true)∧Below w.heap.size w w':=by
 obtain⟨ts,hlen,hTr,hU⟩:=trs_of b0_Triggers.2.2.1 b0_Triggers.2.2.2;obtain⟨nm,rfl⟩: ∃s:List UInt8,a0_Name=⟨s.toArray⟩:=⟨a0_Name.data.toList,by simp⟩
 subst hlen;have hi:PdI ⟨nm,a0_Min,a0_Max,a0_Poll,a0_Cool,a0_Tolerance,a0_Back,a0_After,a0_Shift,a0_Up_Window,a0_Up_Pods,a0_Up_Percent,a0_Up_Period,a0_Down_Window,a0_Down_Pods,a0_Down_Percent,a0_Down_Period⟩:=⟨b0_Min,b0_Max,b0_Poll,b0_Cool,b0_Tolerance,b0_Back,b0_After,b0_Shift,b0_Up_Window,b0_Up_Pods,b0_Up_Percent,b0_Up_Period,b0_Down_Window,b0_Down_Pods,b0_Down_Percent,b0_Down_Period⟩
 have hl:nm.length≤9223372036854775807:=by
  have e:(⟨nm.toArray⟩:ByteArray).size=nm.length:=rfl;have h:=b0_Name;omega
 by_cases hc:newE ⟨nm,a0_Min,a0_Max,a0_Poll,a0_Cool,a0_Tolerance,a0_Back,a0_After,a0_Shift,a0_Up_Window,a0_Up_Pods,a0_Up_Percent,a0_Up_Period,a0_Down_Window,a0_Down_Pods,a0_Down_Percent,a0_Down_Period⟩ ts a1 a3=0
 ·obtain⟨h1,h2,h3⟩:=Glb.newE_nil hc;obtain⟨n,rfl⟩: ∃n:Nat,a1=(n:Int):=⟨a1.toNat,by omega⟩
  exact wplays_good ⟨nm,a0_Min,a0_Max,a0_Poll,a0_Cool,a0_Tolerance,a0_Back,a0_After,a0_Shift,a0_Up_Window,a0_Up_Pods,a0_Up_Percent,a0_Up_Period,a0_Down_Window,a0_Down_Pods,a0_Down_Percent,a0_Down_Period⟩ a0_Triggers a4 a0_Triggers_cap a4_len a4_cap ts n a2 a3 a4_X w hB hi hl hTr hU b4 h1 (by omega) h3
 ·exact wplays_bad ⟨nm,a0_Min,a0_Max,a0_Poll,a0_Cool,a0_Tolerance,a0_Back,a0_After,a0_Shift,a0_Up_Window,a0_Up_Pods,a0_Up_Percent,a0_Up_Period,a0_Down_Window,a0_Down_Pods,a0_Down_Percent,a0_Down_Period⟩ a0_Triggers a4 a0_Triggers_cap a4_len a4_cap ts a1 a2 a3 w hB hi hl hTr hU hc

theorem door_met (os:Os) (args:Array Value):laidMetH Tryz.prog Rows.worldPlaysRow.laid ((World.doorLaid Tryz.prog 400 os).forCall (fun _ _=>0) ⟨#[],args,[]⟩).memory:=
 laidMetH_of_parts3 (fuel:=8) (laidMet_of_run' 8 (by kernel_rfl) (by kernel_rfl)) (by kernel_rfl) (by kernel_rfl)

set_option maxRecDepth 100000 in
theorem lifted (os:Os) (started:os.Started) (H:Type) (enc:TypeId×Value→H):
  ReturnsInHanded {} Tryz.checked os 3 .any (fun w args=>(Rows.worldPlaysSpec.pre enc Tryz.prog Tryz.f3 [] false w args∧laidMetH Tryz.prog Rows.worldPlaysRow.laid w)∧sizedMet enc Tryz.prog Tryz.f3 (OpenSpec.ofChange Rows.worldPlaysSpec) false w args)
   (Rows.worldPlaysSpec.post enc Tryz.prog Tryz.f3 false true false false):=by
 refine returnsInHanded_of_change_and (C:=Tryz.checked) (X:=fun w _=>laidMetH Tryz.prog Rows.worldPlaysRow.laid w) (fun _ _ _ hh h=>h.of_heap hh) own started (by kernel_rfl) Tryz.func3
  (ChangeSpec.witness_shaped (enc:=enc) (C:=Tryz.checked) (os:=os) (X:=fun w _=>laidMetH Tryz.prog Rows.worldPlaysRow.laid w) false (World.doorLaid Tryz.prog 400 os) #[.agg #[.string ByteArray.empty,.int .i64 0,.int .i64 0,.int .i64 0,.int .i64 0,.int .i64 0,.int .i64 0,.int .i64 0,.int .i64 0,.int .i64 0,.int .i64 0,.int .i64 0,.int .i64 0,.int .i64 0,.int .i64 0,.int .i64 0,.int .i64 0,.slice none 0 0],.int .i64 0,.int .i64 0,.int .i64 0,.slice none 0 0] 8 rfl (World.shaped_of_RefB (by kernel_rfl) (by kernel_rfl)) (by kernel_rfl) (by kernel_rfl) (by kernel_rfl) (door_met os _)) ?_
 intro W base args ds gs before hval0 hW _ _ hL0 _;have hval: ∀(j:Nat) t v,Tryz.f3.params[j]? =some t→args[j]? =some v→Value.okWide Tryz.prog W .any base t v:=hval0;have hW':=hW;obtain⟨p,q,hA0,hV,rfl,hfz,hnd⟩:=hW;have hA:DataW.TrodAll enc Tryz.prog W 0 (fun _=>true) true Tryz.f3.params.toList args.toList ds p:=hA0;rw [Tryz.params3]at hA hval;obtain⟨v0,vs0,d0,ds0,p0,q0,hargs,rfl,rfl,k0,r0⟩:=trodAll_cons hA;obtain⟨v1,vs1,d1,ds1,p1,q1,rfl,rfl,rfl,k1,r1⟩:=trodAll_cons r0;obtain⟨v2,vs2,d2,ds2,p2,q2,rfl,rfl,rfl,k2,r2⟩:=trodAll_cons r1;obtain⟨v3,vs3,d3,ds3,p3,q3,rfl,rfl,rfl,k3,r3⟩:=trodAll_cons r2;obtain⟨v4,vs4,d4,ds4,p4,q4,rfl,rfl,rfl,k4,r4⟩:=trodAll_cons r3;obtain⟨rfl,rfl,rfl⟩:=trodAll_nil r4;obtain rfl:args=#[v0,v1,v2,v3,v4]:=by cases args;simp_all
 obtain⟨rfl,rfl⟩:=trodVars_none hV;have lt0: ∀x∈p0,x.block<W.heap.size:=by obtain⟨m,hm⟩:=k0;exact DataW.trod_lt m _ _ _ hm
 have lt1: ∀x∈p1,x.block<W.heap.size:=by obtain⟨m,hm⟩:=k1;exact DataW.trod_lt m _ _ _ hm
 have lt2: ∀x∈p2,x.block<W.heap.size:=by obtain⟨m,hm⟩:=k2;exact DataW.trod_lt m _ _ _ hm
 have lt3: ∀x∈p3,x.block<W.heap.size:=by obtain⟨m,hm⟩:=k3;exact DataW.trod_lt m _ _ _ hm
 have lt4: ∀x∈p4,x.block<W.heap.size:=by obtain⟨m,hm⟩:=k4;exact DataW.trod_lt m _ _ _ hm
 obtain⟨a0_Name,a0_Min,a0_Max,a0_Poll,a0_Cool,a0_Tolerance,a0_Back,a0_After,a0_Shift,a0_Up_Window,a0_Up_Pods,a0_Up_Percent,a0_Up_Period,a0_Down_Window,a0_Down_Pods,a0_Down_Percent,a0_Down_Period,a0_Triggers,a0_Triggers_len,a0_Triggers_cap,a0_Triggers_X,rfl,b0_Name,b0_Min,b0_Max,b0_Poll,b0_Cool,b0_Tolerance,b0_Back,b0_After,b0_Shift,b0_Up_Window,b0_Up_Pods,b0_Up_Percent,b0_Up_Period,b0_Down_Window,b0_Down_Pods,b0_Down_Percent,b0_Down_Period,b0_Triggers⟩:=open26 (hval 0 26 v0 rfl rfl) k0;obtain⟨a1,rfl,g1⟩:=Frm.val_int Tryz.underlying3 (hval 1 3 v1 rfl rfl);obtain⟨a2,rfl,g2⟩:=Frm.val_int Tryz.underlying3 (hval 2 3 v2 rfl rfl);obtain⟨a3,rfl,g3⟩:=Frm.val_int Tryz.underlying3 (hval 3 3 v3 rfl rfl);obtain⟨a4,a4_len,a4_cap,a4_X,rfl,b4_le,b4_max,b4⟩:=Frm.aggs_open Tryz.underlying27 Tryz.underlying37 (fun j f hj=>by match j,hj with|0,hj=>simp at hj;subst hj;exact⟨Tryz.underlying3,rfl,count3w⟩|1,hj=>simp at hj;subst hj;exact⟨Tryz.underlying3,rfl,count3w⟩|2,hj=>simp at hj;subst hj;exact⟨Tryz.underlying3,rfl,count3w⟩|j+3,hj=>simp at hj) count37 (by decide) (Go.WideShapes.okWide_slice Tryz.underlying27 (hval 4 27 v4 rfl rfl)) k4;clear hA0 hval0;have hL:laidMet Tryz.prog Rows.worldPlaysRow.laid W:=by rwa [MakeChecks.laidMetH_plain _ _ _ (by kernel_rfl)]at hL0
 have hB:Lai.BdsAt W:=Lai.bds_of (Lib.laidMet.reads hL (List.Mem.head _));refine(walk W a0_Name a0_Min a0_Max a0_Poll a0_Cool a0_Tolerance a0_Back a0_After a0_Shift a0_Up_Window a0_Up_Pods a0_Up_Percent a0_Up_Period a0_Down_Window a0_Down_Pods a0_Down_Percent a0_Down_Period a0_Triggers a0_Triggers_len a0_Triggers_cap a0_Triggers_X a1 a2 a3 a4 a4_len a4_cap a4_X b0_Name b0_Min b0_Max b0_Poll b0_Cool b0_Tolerance b0_Back b0_After b0_Shift b0_Up_Window b0_Up_Pods b0_Up_Percent b0_Up_Period b0_Down_Window b0_Down_Pods b0_Down_Percent b0_Down_Period b0_Triggers (Frm.bd_i64 g1) (Frm.bd_i64 g2) (Frm.bd_i64 g3) b4_le b4_max b4 hB).mono fun e W' ⟨he,bel⟩=> ?_;subst he;exact⟨_,rfl,_,_,_,[],_,[],hW',trodAll_mk1 (shut_bool Tryz.underlying4 _),(trodAll_cons_mk (Below.trod laidOut (by kernel_rfl) (of_decide_eq_true (by kernel_rfl)) k0 bel lt0) (trodAll_cons_mk (Below.trod laidOut (by kernel_rfl) (of_decide_eq_true (by kernel_rfl)) k1 bel lt1) (trodAll_cons_mk (Below.trod laidOut (by kernel_rfl) (of_decide_eq_true (by kernel_rfl)) k2 bel lt2) (trodAll_cons_mk (Below.trod laidOut (by kernel_rfl) (of_decide_eq_true (by kernel_rfl)) k3 bel lt3) (trodAll_cons_mk (Below.trod laidOut (by kernel_rfl) (of_decide_eq_true (by kernel_rfl)) k4 bel lt4) trodAll_mk0))))),rfl,bel.frame _,fun h=>by cases h⟩

theorem over:Rows.worldPlaysRow.holds Tryz.pinned (OpenSpec.ofChange Rows.worldPlaysSpec):=
 OpenClaim.holds_of_wide 3 Tryz.f3 rfl rfl rfl rfl rfl rfl rfl ⟨rfl,rfl,rfl,rfl,rfl⟩ rfl rfl rfl rfl rfl (by kernel_rfl) Tryz.func3 (by kernel_rfl)
  (of_decide_eq_true (by kernel_rfl)) (by unfold Func.isWrapper;first|(rw [if_pos (by decide+kernel)];kernel_rfl)|(rw [if_neg (by decide+kernel)];exact⟨rfl,rfl⟩))
  (fun os started H enc _=>lifted os started H enc)

theorem proved:Rows.WorldPlaysCardSaid:=
 Claim7.holds_tied_plain_at .later [] [.wider] true (true, "5487717c353a360d7b1afeae971ffb87c157a2d23776b71c7ae2c3ec706ae3aa") false
  over (fun _ h=>by cases h) (by kernel_rfl) (fun _ h=>by cases h) worldPlays_row_tie rfl ⟨rfl,rfl⟩ (by kernel_rfl) rfl
  (fun f fn hf hfn => by
   obtain rfl : f = 3 := Option.some.inj ((show Tryz.prog.funcNamed "tidewheel/tidelaw.WorldPlays" = some 3 by kernel_rfl).symm.trans hf) |>.symm
   obtain rfl:fn=Tryz.f3:=(Option.some.inj (Tryz.func3.symm.trans hfn)).symm
   exact ⟨by kernel_rfl, fun j t ht => by
    rw [Tryz.params3]at ht
    have hm:t∈ [26,3,3,3,27]:=by simpa using Array.mem_of_getElem? ht
    have hall:([26,3,3,3,27].all fun u=> !Tryz.prog.wantsStandIn u)=true:=by kernel_rfl
    exact(show Tryz.prog.wantsStandIn t=false by simpa using List.all_eq_true.1 hall t hm)⟩)
  (by kernel_rfl)
#print axioms proved
