/- Proved: for every plan, every list of waits, every list that tells when it is busy: to zero it goes just when nothing was needed for so long as the plan says, since there was last a need. -/
import Derived.Test.YtbnnplfmhmmbnahDoorRows
import Derived.WalkKit
import Derived.ProofKit
import Derived.OpenShut
import Derived.ShutString
import Derived.ChangeOld
import Derived.Below
import Derived.Test.YtbnnplfmhmmbnahDoorPkFrame
import Derived.LaidMore
import Derived.Stop.Joined
import Derived.SevenTiedAt
import Derived.Lib.LaidU8
import Derived.Test.YtbnnplfmhmmbnahDoorCards
import Derived.Test.YtbnnplfmhmmbnahDoorTie
import Derived.Test.YtbnnplfmhmmbnahDoorPkLopPlan
import Derived.Test.YtbnnplfmhmmbnahDoorPkFrameGl
import Derived.Test.YtbnnplfmhmmbnahDoorPkLaid
namespace Go.Proofs.YtbnnplfmhmmbnahDoor.loopCools
open Go.ChangeShapes Go.WideShapes Go.ChangeAt Go.RowKit
set_option linter.unusedVariables false
set_option maxRecDepth 8000

theorem own : ownKnob Tryd.prog.godebug = none := by kernel_rfl
theorem laidOut : laidOutB Tryd.prog = true := by kernel_rfl

theorem leafy3 {H : Type} {enc : TypeId × Value → H} {w : World} {base : Nat} {spare : Nat → Bool} {held : Bool} : Frm.Leafy enc Tryd.prog w base spare held 3 [.i64] := Frm.leafy_i64 Tryd.underlying3
theorem leafy40 {H : Type} {enc : TypeId × Value → H} {w : World} {base : Nat} {spare : Nat → Bool} {held : Bool} : Frm.Leafy enc Tryd.prog w base spare held 40 [.u64] := Frm.leafy_u64 Tryd.underlying40
theorem leafy4 {H : Type} {enc : TypeId × Value → H} {w : World} {base : Nat} {spare : Nat → Bool} {held : Bool} : Frm.Leafy enc Tryd.prog w base spare held 4 [.bool] := Frm.leafy_bool Tryd.underlying4
theorem leafy42 {H : Type} {enc : TypeId × Value → H} {w : World} {base : Nat} {spare : Nat → Bool} {held : Bool} : Frm.Leafy enc Tryd.prog w base spare held 42 [.u64, .u64, .u64, .u64, .u64, .bool, .bool] := by
  refine Frm.leafy_struct Tryd.underlying42 fun j k hk => ?_
  match j, hk with
  | 0, hk => simp at hk; subst hk; exact ⟨0, _, 0, [.u64], rfl, rfl, rfl, leafy40⟩
  | 1, hk => simp at hk; subst hk; exact ⟨1, _, 0, [.u64], rfl, rfl, rfl, leafy40⟩
  | 2, hk => simp at hk; subst hk; exact ⟨2, _, 0, [.u64], rfl, rfl, rfl, leafy40⟩
  | 3, hk => simp at hk; subst hk; exact ⟨3, _, 0, [.u64], rfl, rfl, rfl, leafy40⟩
  | 4, hk => simp at hk; subst hk; exact ⟨4, _, 0, [.u64], rfl, rfl, rfl, leafy40⟩
  | 5, hk => simp at hk; subst hk; exact ⟨5, _, 0, [.bool], rfl, rfl, rfl, leafy4⟩
  | 6, hk => simp at hk; subst hk; exact ⟨6, _, 0, [.bool], rfl, rfl, rfl, leafy4⟩
  | j + 7, hk => simp at hk
theorem leafy44 {H : Type} {enc : TypeId × Value → H} {w : World} {base : Nat} {spare : Nat → Bool} {held : Bool} : Frm.Leafy enc Tryd.prog w base spare held 44 [.u64, .u64, .u64, .u64, .u64, .bool, .bool, .u64, .u64, .u64, .u64, .u64, .bool, .bool] := by
  refine Frm.leafy_struct Tryd.underlying44 fun j k hk => ?_
  match j, hk with
  | 0, hk => simp at hk; subst hk; exact ⟨0, _, 0, [.u64, .u64, .u64, .u64, .u64, .bool, .bool], rfl, rfl, rfl, leafy42⟩
  | 1, hk => simp at hk; subst hk; exact ⟨0, _, 1, [.u64, .u64, .u64, .u64, .u64, .bool, .bool], rfl, rfl, rfl, leafy42⟩
  | 2, hk => simp at hk; subst hk; exact ⟨0, _, 2, [.u64, .u64, .u64, .u64, .u64, .bool, .bool], rfl, rfl, rfl, leafy42⟩
  | 3, hk => simp at hk; subst hk; exact ⟨0, _, 3, [.u64, .u64, .u64, .u64, .u64, .bool, .bool], rfl, rfl, rfl, leafy42⟩
  | 4, hk => simp at hk; subst hk; exact ⟨0, _, 4, [.u64, .u64, .u64, .u64, .u64, .bool, .bool], rfl, rfl, rfl, leafy42⟩
  | 5, hk => simp at hk; subst hk; exact ⟨0, _, 5, [.u64, .u64, .u64, .u64, .u64, .bool, .bool], rfl, rfl, rfl, leafy42⟩
  | 6, hk => simp at hk; subst hk; exact ⟨0, _, 6, [.u64, .u64, .u64, .u64, .u64, .bool, .bool], rfl, rfl, rfl, leafy42⟩
  | 7, hk => simp at hk; subst hk; exact ⟨1, _, 0, [.u64, .u64, .u64, .u64, .u64, .bool, .bool], rfl, rfl, rfl, leafy42⟩
  | 8, hk => simp at hk; subst hk; exact ⟨1, _, 1, [.u64, .u64, .u64, .u64, .u64, .bool, .bool], rfl, rfl, rfl, leafy42⟩
  | 9, hk => simp at hk; subst hk; exact ⟨1, _, 2, [.u64, .u64, .u64, .u64, .u64, .bool, .bool], rfl, rfl, rfl, leafy42⟩
  | 10, hk => simp at hk; subst hk; exact ⟨1, _, 3, [.u64, .u64, .u64, .u64, .u64, .bool, .bool], rfl, rfl, rfl, leafy42⟩
  | 11, hk => simp at hk; subst hk; exact ⟨1, _, 4, [.u64, .u64, .u64, .u64, .u64, .bool, .bool], rfl, rfl, rfl, leafy42⟩
  | 12, hk => simp at hk; subst hk; exact ⟨1, _, 5, [.u64, .u64, .u64, .u64, .u64, .bool, .bool], rfl, rfl, rfl, leafy42⟩
  | 13, hk => simp at hk; subst hk; exact ⟨1, _, 6, [.u64, .u64, .u64, .u64, .u64, .bool, .bool], rfl, rfl, rfl, leafy42⟩
  | j + 14, hk => simp at hk
theorem leafy46 {H : Type} {enc : TypeId × Value → H} {w : World} {base : Nat} {spare : Nat → Bool} {held : Bool} : Frm.Leafy enc Tryd.prog w base spare held 46 [.i64, .i64, .i64, .u64, .u64, .u64, .u64, .u64, .bool, .bool, .u64, .u64, .u64, .u64, .u64, .bool, .bool] := by
  refine Frm.leafy_struct Tryd.underlying46 fun j k hk => ?_
  match j, hk with
  | 0, hk => simp at hk; subst hk; exact ⟨0, _, 0, [.i64], rfl, rfl, rfl, leafy3⟩
  | 1, hk => simp at hk; subst hk; exact ⟨1, _, 0, [.i64], rfl, rfl, rfl, leafy3⟩
  | 2, hk => simp at hk; subst hk; exact ⟨2, _, 0, [.i64], rfl, rfl, rfl, leafy3⟩
  | 3, hk => simp at hk; subst hk; exact ⟨3, _, 0, [.u64, .u64, .u64, .u64, .u64, .bool, .bool, .u64, .u64, .u64, .u64, .u64, .bool, .bool], rfl, rfl, rfl, leafy44⟩
  | 4, hk => simp at hk; subst hk; exact ⟨3, _, 1, [.u64, .u64, .u64, .u64, .u64, .bool, .bool, .u64, .u64, .u64, .u64, .u64, .bool, .bool], rfl, rfl, rfl, leafy44⟩
  | 5, hk => simp at hk; subst hk; exact ⟨3, _, 2, [.u64, .u64, .u64, .u64, .u64, .bool, .bool, .u64, .u64, .u64, .u64, .u64, .bool, .bool], rfl, rfl, rfl, leafy44⟩
  | 6, hk => simp at hk; subst hk; exact ⟨3, _, 3, [.u64, .u64, .u64, .u64, .u64, .bool, .bool, .u64, .u64, .u64, .u64, .u64, .bool, .bool], rfl, rfl, rfl, leafy44⟩
  | 7, hk => simp at hk; subst hk; exact ⟨3, _, 4, [.u64, .u64, .u64, .u64, .u64, .bool, .bool, .u64, .u64, .u64, .u64, .u64, .bool, .bool], rfl, rfl, rfl, leafy44⟩
  | 8, hk => simp at hk; subst hk; exact ⟨3, _, 5, [.u64, .u64, .u64, .u64, .u64, .bool, .bool, .u64, .u64, .u64, .u64, .u64, .bool, .bool], rfl, rfl, rfl, leafy44⟩
  | 9, hk => simp at hk; subst hk; exact ⟨3, _, 6, [.u64, .u64, .u64, .u64, .u64, .bool, .bool, .u64, .u64, .u64, .u64, .u64, .bool, .bool], rfl, rfl, rfl, leafy44⟩
  | 10, hk => simp at hk; subst hk; exact ⟨3, _, 7, [.u64, .u64, .u64, .u64, .u64, .bool, .bool, .u64, .u64, .u64, .u64, .u64, .bool, .bool], rfl, rfl, rfl, leafy44⟩
  | 11, hk => simp at hk; subst hk; exact ⟨3, _, 8, [.u64, .u64, .u64, .u64, .u64, .bool, .bool, .u64, .u64, .u64, .u64, .u64, .bool, .bool], rfl, rfl, rfl, leafy44⟩
  | 12, hk => simp at hk; subst hk; exact ⟨3, _, 9, [.u64, .u64, .u64, .u64, .u64, .bool, .bool, .u64, .u64, .u64, .u64, .u64, .bool, .bool], rfl, rfl, rfl, leafy44⟩
  | 13, hk => simp at hk; subst hk; exact ⟨3, _, 10, [.u64, .u64, .u64, .u64, .u64, .bool, .bool, .u64, .u64, .u64, .u64, .u64, .bool, .bool], rfl, rfl, rfl, leafy44⟩
  | 14, hk => simp at hk; subst hk; exact ⟨3, _, 11, [.u64, .u64, .u64, .u64, .u64, .bool, .bool, .u64, .u64, .u64, .u64, .u64, .bool, .bool], rfl, rfl, rfl, leafy44⟩
  | 15, hk => simp at hk; subst hk; exact ⟨3, _, 12, [.u64, .u64, .u64, .u64, .u64, .bool, .bool, .u64, .u64, .u64, .u64, .u64, .bool, .bool], rfl, rfl, rfl, leafy44⟩
  | 16, hk => simp at hk; subst hk; exact ⟨3, _, 13, [.u64, .u64, .u64, .u64, .u64, .bool, .bool, .u64, .u64, .u64, .u64, .u64, .bool, .bool], rfl, rfl, rfl, leafy44⟩
  | j + 17, hk => simp at hk
theorem countE46 : Tryd.prog.cellsOf 46 = 17 := by kernel_rfl
theorem countS24 : Tryd.prog.cellsOf 24 = 1 := by kernel_rfl
theorem cells26 : Tryd.prog.cellTypes Tryd.prog.depth 26 = some [9, 3, 3, 3, 3, 3, 3, 3, 3, 3, 3, 3, 3, 3, 3, 3, 3, 24] := by kernel_rfl
theorem count26 : Tryd.prog.cellsOf 26 = 18 := by kernel_rfl
theorem list18of26 {cs : List Value} (h : cs.length = 18) : ∃ c0 c1 c2 c3 c4 c5 c6 c7 c8 c9 c10 c11 c12 c13 c14 c15 c16 c17, cs = [c0, c1, c2, c3, c4, c5, c6, c7, c8, c9, c10, c11, c12, c13, c14, c15, c16, c17] := by
  match cs, h with | [c0, c1, c2, c3, c4, c5, c6, c7, c8, c9, c10, c11, c12, c13, c14, c15, c16, c17], _ => exact ⟨c0, c1, c2, c3, c4, c5, c6, c7, c8, c9, c10, c11, c12, c13, c14, c15, c16, c17, rfl⟩
theorem open26 {W : World} {r : Reach} {base : Nat} {v : Value} (h : Value.okWide Tryd.prog W r base 26 v) {H : Type} {enc : TypeId × Value → H} {spare : Nat → Bool} {held : Bool} {d : DataW H} {p : List MemPlace} (h2 : DataW.Trod enc Tryd.prog W 0 spare held 26 v d p) :
    ∃ (f0 : ByteArray) (f1 : Int) (f2 : Int) (f3 : Int) (f4 : Int) (f5 : Int) (f6 : Int) (f7 : Int) (f8 : Int) (f9 : Int) (f10 : Int) (f11 : Int) (f12 : Int) (f13 : Int) (f14 : Int) (f15 : Int) (f16 : Int) (f17 : Option Addr) (f17_len f17_cap : Nat) (f17_X : Nat → Nat → Value), v = .agg #[.string f0, .int .i64 f1, .int .i64 f2, .int .i64 f3, .int .i64 f4, .int .i64 f5, .int .i64 f6, .int .i64 f7, .int .i64 f8, .int .i64 f9, .int .i64 f10, .int .i64 f11, .int .i64 f12, .int .i64 f13, .int .i64 f14, .int .i64 f15, .int .i64 f16, .slice f17 f17_len f17_cap] ∧ (f0.size : Int) ≤ 9223372036854775807 ∧ (-9223372036854775808 ≤ f1 ∧ f1 ≤ 9223372036854775807) ∧ (-9223372036854775808 ≤ f2 ∧ f2 ≤ 9223372036854775807) ∧ (-9223372036854775808 ≤ f3 ∧ f3 ≤ 9223372036854775807) ∧ (-9223372036854775808 ≤ f4 ∧ f4 ≤ 9223372036854775807) ∧ (-9223372036854775808 ≤ f5 ∧ f5 ≤ 9223372036854775807) ∧ (-9223372036854775808 ≤ f6 ∧ f6 ≤ 9223372036854775807) ∧ (-9223372036854775808 ≤ f7 ∧ f7 ≤ 9223372036854775807) ∧ (-9223372036854775808 ≤ f8 ∧ f8 ≤ 9223372036854775807) ∧ (-9223372036854775808 ≤ f9 ∧ f9 ≤ 9223372036854775807) ∧ (-9223372036854775808 ≤ f10 ∧ f10 ≤ 9223372036854775807) ∧ (-9223372036854775808 ≤ f11 ∧ f11 ≤ 9223372036854775807) ∧ (-9223372036854775808 ≤ f12 ∧ f12 ≤ 9223372036854775807) ∧ (-9223372036854775808 ≤ f13 ∧ f13 ≤ 9223372036854775807) ∧ (-9223372036854775808 ≤ f14 ∧ f14 ≤ 9223372036854775807) ∧ (-9223372036854775808 ≤ f15 ∧ f15 ≤ 9223372036854775807) ∧ (-9223372036854775808 ≤ f16 ∧ f16 ≤ 9223372036854775807) ∧ (f17_len ≤ f17_cap ∧ f17_cap ≤ maxLen ∧ Frm.CellsIn W f17 f17_len 17 f17_X ∧ Frm.LeavesIn f17_len [.i64, .i64, .i64, .u64, .u64, .u64, .u64, .u64, .bool, .bool, .u64, .u64, .u64, .u64, .u64, .bool, .bool] f17_X) := by
  obtain ⟨cs, rfl, hn, hc⟩ := Frm.agg_cells Tryd.underlying26 cells26 (by rw [count26]; rfl) h
  obtain ⟨c0, c1, c2, c3, c4, c5, c6, c7, c8, c9, c10, c11, c12, c13, c14, c15, c16, c17, rfl⟩ := list18of26 hn
  obtain ⟨f0, rfl, g0⟩ := Frm.cell_string Tryd.underlying9 (hc 0 _ _ rfl rfl)
  obtain ⟨f1, rfl, g1⟩ := Frm.cell_int Tryd.underlying3 (hc 1 _ _ rfl rfl)
  obtain ⟨f2, rfl, g2⟩ := Frm.cell_int Tryd.underlying3 (hc 2 _ _ rfl rfl)
  obtain ⟨f3, rfl, g3⟩ := Frm.cell_int Tryd.underlying3 (hc 3 _ _ rfl rfl)
  obtain ⟨f4, rfl, g4⟩ := Frm.cell_int Tryd.underlying3 (hc 4 _ _ rfl rfl)
  obtain ⟨f5, rfl, g5⟩ := Frm.cell_int Tryd.underlying3 (hc 5 _ _ rfl rfl)
  obtain ⟨f6, rfl, g6⟩ := Frm.cell_int Tryd.underlying3 (hc 6 _ _ rfl rfl)
  obtain ⟨f7, rfl, g7⟩ := Frm.cell_int Tryd.underlying3 (hc 7 _ _ rfl rfl)
  obtain ⟨f8, rfl, g8⟩ := Frm.cell_int Tryd.underlying3 (hc 8 _ _ rfl rfl)
  obtain ⟨f9, rfl, g9⟩ := Frm.cell_int Tryd.underlying3 (hc 9 _ _ rfl rfl)
  obtain ⟨f10, rfl, g10⟩ := Frm.cell_int Tryd.underlying3 (hc 10 _ _ rfl rfl)
  obtain ⟨f11, rfl, g11⟩ := Frm.cell_int Tryd.underlying3 (hc 11 _ _ rfl rfl)
  obtain ⟨f12, rfl, g12⟩ := Frm.cell_int Tryd.underlying3 (hc 12 _ _ rfl rfl)
  obtain ⟨f13, rfl, g13⟩ := Frm.cell_int Tryd.underlying3 (hc 13 _ _ rfl rfl)
  obtain ⟨f14, rfl, g14⟩ := Frm.cell_int Tryd.underlying3 (hc 14 _ _ rfl rfl)
  obtain ⟨f15, rfl, g15⟩ := Frm.cell_int Tryd.underlying3 (hc 15 _ _ rfl rfl)
  obtain ⟨f16, rfl, g16⟩ := Frm.cell_int Tryd.underlying3 (hc 16 _ _ rfl rfl)
  obtain ⟨fu17, hf17⟩ := h2
  obtain ⟨n17, y17, hy17⟩ := Frm.field_open Tryd.underlying26 hf17 (i := 11) rfl
  have hz17 : DataW.trod enc Tryd.prog W 0 spare held n17 24 [c17] = some y17 := by simpa [Value.cells, countS24] using hy17
  obtain ⟨f17, f17_len, f17_cap, f17_X, rfl, g17⟩ := Frm.cells_open Tryd.underlying24 countE46 (by decide) rfl leafy46 hz17
  exact ⟨f0, f1, f2, f3, f4, f5, f6, f7, f8, f9, f10, f11, f12, f13, f14, f15, f16, f17, f17_len, f17_cap, f17_X, rfl, g0, Frm.bd_i64 g1, Frm.bd_i64 g2, Frm.bd_i64 g3, Frm.bd_i64 g4, Frm.bd_i64 g5, Frm.bd_i64 g6, Frm.bd_i64 g7, Frm.bd_i64 g8, Frm.bd_i64 g9, Frm.bd_i64 g10, Frm.bd_i64 g11, Frm.bd_i64 g12, Frm.bd_i64 g13, Frm.bd_i64 g14, Frm.bd_i64 g15, Frm.bd_i64 g16, g17⟩

theorem count3 : Tryd.prog.cellsOf 3 = 1 := by kernel_rfl
theorem countB4 : Tryd.prog.cellsOf 4 = 1 := by kernel_rfl
open Crn Lai Pln Lop

theorem walk (w : World) (a0_Name : ByteArray) (a0_Min : Int) (a0_Max : Int) (a0_Poll : Int) (a0_Cool : Int) (a0_Tolerance : Int) (a0_Back : Int) (a0_After : Int) (a0_Shift : Int) (a0_Up_Window : Int) (a0_Up_Pods : Int) (a0_Up_Percent : Int) (a0_Up_Period : Int) (a0_Down_Window : Int) (a0_Down_Pods : Int) (a0_Down_Percent : Int) (a0_Down_Period : Int) (a0_Triggers : Option Addr) (a0_Triggers_len a0_Triggers_cap : Nat) (a0_Triggers_X : Nat → Nat → Value) (a1 : Option Addr) (a1_len a1_cap : Nat) (a1_X : Nat → Nat → Int) (a2 : Option Addr) (a2_len a2_cap : Nat) (a2_X : Nat → Bool) (b0_Name : (a0_Name.size : Int) ≤ 9223372036854775807) (b0_Min : (-9223372036854775808 ≤ a0_Min ∧ a0_Min ≤ 9223372036854775807)) (b0_Max : (-9223372036854775808 ≤ a0_Max ∧ a0_Max ≤ 9223372036854775807)) (b0_Poll : (-9223372036854775808 ≤ a0_Poll ∧ a0_Poll ≤ 9223372036854775807)) (b0_Cool : (-9223372036854775808 ≤ a0_Cool ∧ a0_Cool ≤ 9223372036854775807)) (b0_Tolerance : (-9223372036854775808 ≤ a0_Tolerance ∧ a0_Tolerance ≤ 9223372036854775807)) (b0_Back : (-9223372036854775808 ≤ a0_Back ∧ a0_Back ≤ 9223372036854775807)) (b0_After : (-9223372036854775808 ≤ a0_After ∧ a0_After ≤ 9223372036854775807)) (b0_Shift : (-9223372036854775808 ≤ a0_Shift ∧ a0_Shift ≤ 9223372036854775807)) (b0_Up_Window : (-9223372036854775808 ≤ a0_Up_Window ∧ a0_Up_Window ≤ 9223372036854775807)) (b0_Up_Pods : (-9223372036854775808 ≤ a0_Up_Pods ∧ a0_Up_Pods ≤ 9223372036854775807)) (b0_Up_Percent : (-9223372036854775808 ≤ a0_Up_Percent ∧ a0_Up_Percent ≤ 9223372036854775807)) (b0_Up_Period : (-9223372036854775808 ≤ a0_Up_Period ∧ a0_Up_Period ≤ 9223372036854775807)) (b0_Down_Window : (-9223372036854775808 ≤ a0_Down_Window ∧ a0_Down_Window ≤ 9223372036854775807)) (b0_Down_Pods : (-9223372036854775808 ≤ a0_Down_Pods ∧ a0_Down_Pods ≤ 9223372036854775807)) (b0_Down_Percent : (-9223372036854775808 ≤ a0_Down_Percent ∧ a0_Down_Percent ≤ 9223372036854775807)) (b0_Down_Period : (-9223372036854775808 ≤ a0_Down_Period ∧ a0_Down_Period ≤ 9223372036854775807)) (b0_Triggers : (a0_Triggers_len ≤ a0_Triggers_cap ∧ a0_Triggers_cap ≤ maxLen ∧ Frm.CellsIn w a0_Triggers a0_Triggers_len 17 a0_Triggers_X ∧ Frm.LeavesIn a0_Triggers_len [.i64, .i64, .i64, .u64, .u64, .u64, .u64, .u64, .bool, .bool, .u64, .u64, .u64, .u64, .u64, .bool, .bool] a0_Triggers_X)) (b1_le : a1_len ≤ a1_cap) (b1_max : a1_cap ≤ maxLen) (b1 : Frm.RowsIn w a1 a1_len 1 a1_X) (b2_le : a2_len ≤ a2_cap) (b2_max : a2_cap ≤ maxLen) (b2 : Frm.BlsAt w a2 a2_len a2_X) (hB : Lai.BdsAt w) :
    Calls Tryd.prog 4 #[.agg #[.string a0_Name, .int .i64 a0_Min, .int .i64 a0_Max, .int .i64 a0_Poll, .int .i64 a0_Cool, .int .i64 a0_Tolerance, .int .i64 a0_Back, .int .i64 a0_After, .int .i64 a0_Shift, .int .i64 a0_Up_Window, .int .i64 a0_Up_Pods, .int .i64 a0_Up_Percent, .int .i64 a0_Up_Period, .int .i64 a0_Down_Window, .int .i64 a0_Down_Pods, .int .i64 a0_Down_Percent, .int .i64 a0_Down_Period, .slice a0_Triggers a0_Triggers_len a0_Triggers_cap], .slice a1 a1_len a1_cap, .slice a2 a2_len a2_cap] w fun e w' => e = .returned (.bool true) ∧ Below w.heap.size w w' := by
  obtain ⟨nm, rfl⟩ : ∃ s : List UInt8, a0_Name = ⟨s.toArray⟩ := ⟨a0_Name.data.toList, by simp⟩
  have hi : PdI ⟨nm, a0_Min, a0_Max, a0_Poll, a0_Cool, a0_Tolerance, a0_Back, a0_After, a0_Shift, a0_Up_Window, a0_Up_Pods, a0_Up_Percent, a0_Up_Period, a0_Down_Window, a0_Down_Pods, a0_Down_Percent, a0_Down_Period⟩ := ⟨b0_Min, b0_Max, b0_Poll, b0_Cool, b0_Tolerance, b0_Back, b0_After, b0_Shift, b0_Up_Window, b0_Up_Pods, b0_Up_Percent, b0_Up_Period, b0_Down_Window, b0_Down_Pods, b0_Down_Percent, b0_Down_Period⟩
  have hl : nm.length ≤ 9223372036854775807 := by
    have e : (⟨nm.toArray⟩ : ByteArray).size = nm.length := rfl
    have h := b0_Name
    omega
  exact loopCools_any ⟨nm, a0_Min, a0_Max, a0_Poll, a0_Cool, a0_Tolerance, a0_Back, a0_After, a0_Shift, a0_Up_Window, a0_Up_Pods, a0_Up_Percent, a0_Up_Period, a0_Down_Window, a0_Down_Pods, a0_Down_Percent, a0_Down_Period⟩ (.slice a0_Triggers a0_Triggers_len a0_Triggers_cap) a1 a2 a1_len a1_cap a2_len a2_cap (fun i => a1_X i 0) a2_X w hB hi hl (ints_of b1) b2

theorem door_met (os : Os) (args : Array Value) : laidMetH Tryd.prog Rows.loopCoolsRow.laid ((World.doorLaid Tryd.prog 400 os).forCall (fun _ _ => 0) ⟨#[], args, []⟩).memory :=
  laidMetH_of_parts3 (fuel := 8) (laidMet_of_run' 8 (by kernel_rfl) (by kernel_rfl)) (by kernel_rfl) (by kernel_rfl)

set_option maxRecDepth 100000 in
theorem lifted (os : Os) (started : os.Started) (H : Type) (enc : TypeId × Value → H) :
    ReturnsInHanded {} Tryd.checked os 4 .any (fun w args => (Rows.loopCoolsSpec.pre enc Tryd.prog Tryd.f4 [] false w args ∧ laidMetH Tryd.prog Rows.loopCoolsRow.laid w) ∧ sizedMet enc Tryd.prog Tryd.f4 (OpenSpec.ofChange Rows.loopCoolsSpec) false w args)
      (Rows.loopCoolsSpec.post enc Tryd.prog Tryd.f4 false true false false) := by
  refine returnsInHanded_of_change_and (C := Tryd.checked) (X := fun w _ => laidMetH Tryd.prog Rows.loopCoolsRow.laid w) (fun _ _ _ hh h => h.of_heap hh) own started (by kernel_rfl) Tryd.func4
    (ChangeSpec.witness_shaped (enc := enc) (C := Tryd.checked) (os := os) (X := fun w _ => laidMetH Tryd.prog Rows.loopCoolsRow.laid w) false (World.doorLaid Tryd.prog 400 os) #[.agg #[.string ByteArray.empty, .int .i64 0, .int .i64 0, .int .i64 0, .int .i64 0, .int .i64 0, .int .i64 0, .int .i64 0, .int .i64 0, .int .i64 0, .int .i64 0, .int .i64 0, .int .i64 0, .int .i64 0, .int .i64 0, .int .i64 0, .int .i64 0, .slice none 0 0], .slice none 0 0, .slice none 0 0] 8 rfl (World.shaped_of_RefB (by kernel_rfl) (by kernel_rfl)) (by kernel_rfl) (by kernel_rfl) (by kernel_rfl) (door_met os _)) ?_
  intro W base args ds gs before hval0 hW _ _ hL0 _
  have hval : ∀ (j : Nat) t v, Tryd.f4.params[j]? = some t → args[j]? = some v → Value.okWide Tryd.prog W .any base t v := hval0
  have hW' := hW
  obtain ⟨p, q, hA0, hV, rfl, hfz, hnd⟩ := hW
  have hA : DataW.TrodAll enc Tryd.prog W 0 (fun _ => true) true Tryd.f4.params.toList args.toList ds p := hA0
  rw [Tryd.params4] at hA hval
  obtain ⟨v0, vs0, d0, ds0, p0, q0, hargs, rfl, rfl, k0, r0⟩ := trodAll_cons hA
  obtain ⟨v1, vs1, d1, ds1, p1, q1, rfl, rfl, rfl, k1, r1⟩ := trodAll_cons r0
  obtain ⟨v2, vs2, d2, ds2, p2, q2, rfl, rfl, rfl, k2, r2⟩ := trodAll_cons r1
  obtain ⟨rfl, rfl, rfl⟩ := trodAll_nil r2
  obtain rfl : args = #[v0, v1, v2] := by cases args; simp_all
  obtain ⟨rfl, rfl⟩ := trodVars_none hV
  have lt0 : ∀ x ∈ p0, x.block < W.heap.size := by obtain ⟨m, hm⟩ := k0; exact DataW.trod_lt m _ _ _ hm
  have lt1 : ∀ x ∈ p1, x.block < W.heap.size := by obtain ⟨m, hm⟩ := k1; exact DataW.trod_lt m _ _ _ hm
  have lt2 : ∀ x ∈ p2, x.block < W.heap.size := by obtain ⟨m, hm⟩ := k2; exact DataW.trod_lt m _ _ _ hm
  obtain ⟨a0_Name, a0_Min, a0_Max, a0_Poll, a0_Cool, a0_Tolerance, a0_Back, a0_After, a0_Shift, a0_Up_Window, a0_Up_Pods, a0_Up_Percent, a0_Up_Period, a0_Down_Window, a0_Down_Pods, a0_Down_Percent, a0_Down_Period, a0_Triggers, a0_Triggers_len, a0_Triggers_cap, a0_Triggers_X, rfl, b0_Name, b0_Min, b0_Max, b0_Poll, b0_Cool, b0_Tolerance, b0_Back, b0_After, b0_Shift, b0_Up_Window, b0_Up_Pods, b0_Up_Percent, b0_Up_Period, b0_Down_Window, b0_Down_Pods, b0_Down_Percent, b0_Down_Period, b0_Triggers⟩ := open26 (hval 0 26 v0 rfl rfl) k0
  obtain ⟨a1, a1_len, a1_cap, a1_X, rfl, b1_le, b1_max, b1⟩ := Frm.ints_open Tryd.underlying49 Tryd.underlying3 count3 (Go.WideShapes.okWide_slice Tryd.underlying49 (hval 1 49 v1 rfl rfl)) k1
  obtain ⟨a2, a2_len, a2_cap, a2_X, rfl, b2_le, b2_max, b2⟩ := Frm.bls_of Tryd.underlying55 Tryd.underlying4 countB4 (Go.WideShapes.okWide_slice Tryd.underlying55 (hval 2 55 v2 rfl rfl)) k2
  clear hA0 hval0
  have hL : laidMet Tryd.prog Rows.loopCoolsRow.laid W := by rwa [MakeChecks.laidMetH_plain _ _ _ (by kernel_rfl)] at hL0
  have hB : Lai.BdsAt W := Lai.bds_of (Lib.laidMet.reads hL (List.Mem.head _))
  refine (walk W a0_Name a0_Min a0_Max a0_Poll a0_Cool a0_Tolerance a0_Back a0_After a0_Shift a0_Up_Window a0_Up_Pods a0_Up_Percent a0_Up_Period a0_Down_Window a0_Down_Pods a0_Down_Percent a0_Down_Period a0_Triggers a0_Triggers_len a0_Triggers_cap a0_Triggers_X a1 a1_len a1_cap a1_X a2 a2_len a2_cap a2_X b0_Name b0_Min b0_Max b0_Poll b0_Cool b0_Tolerance b0_Back b0_After b0_Shift b0_Up_Window b0_Up_Pods b0_Up_Percent b0_Up_Period b0_Down_Window b0_Down_Pods b0_Down_Percent b0_Down_Period b0_Triggers b1_le b1_max b1 b2_le b2_max b2 hB).mono fun e W' ⟨he, bel⟩ => ?_
  subst he
  exact ⟨_, rfl, _, _, _, [], _, [], hW', trodAll_mk1 (shut_bool Tryd.underlying4 _), (trodAll_cons_mk (Below.trod laidOut (by kernel_rfl) (of_decide_eq_true (by kernel_rfl)) k0 bel lt0) (trodAll_cons_mk (Below.trod laidOut (by kernel_rfl) (of_decide_eq_true (by kernel_rfl)) k1 bel lt1) (trodAll_cons_mk (Below.trod laidOut (by kernel_rfl) (of_decide_eq_true (by kernel_rfl)) k2 bel lt2) trodAll_mk0))), rfl, bel.frame _, fun h => by cases h⟩

theorem over : Rows.loopCoolsRow.holds Tryd.pinned (OpenSpec.ofChange Rows.loopCoolsSpec) :=
  OpenClaim.holds_of_wide 4 Tryd.f4 rfl rfl rfl rfl rfl rfl rfl ⟨rfl, rfl, rfl, rfl, rfl⟩ rfl rfl rfl rfl rfl (by kernel_rfl) Tryd.func4 (by kernel_rfl)
    (of_decide_eq_true (by kernel_rfl)) (by unfold Func.isWrapper; first | (rw [if_pos (by decide +kernel)]; kernel_rfl) | (rw [if_neg (by decide +kernel)]; exact ⟨rfl, rfl⟩))
    (fun os started H enc _ => lifted os started H enc)

theorem proved : Rows.LoopCoolsCardSaid :=
  Claim7.holds_tied_plain_at .later [] [.wider] true (true, "e2f07df39994fdaa44ce9fcf45e1b1c9a82fb006938770ad1b31770a82c24660") false
    over (fun _ h => by cases h) (by kernel_rfl) (fun _ h => by cases h) loopCools_row_tie rfl ⟨rfl, rfl⟩ (by kernel_rfl) rfl
    (fun f fn hf hfn => by
      obtain rfl : f = 4 := Option.some.inj ((show Tryd.prog.funcNamed "tidewheel/tidekeep.LoopCools" = some 4 by kernel_rfl).symm.trans hf) |>.symm
      obtain rfl : fn = Tryd.f4 := (Option.some.inj (Tryd.func4.symm.trans hfn)).symm
      exact ⟨by kernel_rfl, fun j t ht => by
        rw [Tryd.params4] at ht
        have hm : t ∈ [26, 49, 55] := by simpa using Array.mem_of_getElem? ht
        have hall : ([26, 49, 55].all fun u => !Tryd.prog.wantsStandIn u) = true := by kernel_rfl
        exact (show Tryd.prog.wantsStandIn t = false by simpa using List.all_eq_true.1 hall t hm)⟩)
    (by kernel_rfl)
#print axioms proved
end Go.Proofs.YtbnnplfmhmmbnahDoor.loopCools
