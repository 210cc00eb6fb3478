
/- Proved: for every number of pods, every trigger, every list of lags and every tolerance: what is wanted is what there is, or what is needed; what stays within a tolerance stays within a tolerance of all. -/
import Derived.Test.YtcaobnmfgnbolafDoorRows
import Derived.WalkKit
import Derived.ProofKit
import Derived.OpenShut
import Derived.ShutString
import Derived.ChangeOld
import Derived.Below
import Derived.Test.YtcaobnmfgnbolafDoorFrame
import Derived.LaidMore
import Derived.Stop.Joined
import Derived.SevenTiedAt
import Derived.Lib.LaidU8
import Derived.Test.YtcaobnmfgnbolafDoorCards
import Derived.Test.YtcaobnmfgnbolafDoorTie
import Derived.Test.YtcaobnmfgnbolafDoorFrameSl
import Derived.Test.YtcaobnmfgnbolafDoorNeedStay2
namespace Go.Proofs.YtcaobnmfgnbolafDoor.needStays
open Go.ChangeShapes Go.WideShapes Go.ChangeAt Go.RowKit
set_option linter.unusedVariables false
set_option maxRecDepth 8000

theorem own : ownKnob Tryd.prog.godebug = none := by kernel_rfl
theorem laidOut : laidOutB Tryd.prog = true := by kernel_rfl

theorem cells41 : Tryd.prog.cellTypes Tryd.prog.depth 41 = some [3, 3, 3, 35, 35, 35, 35, 35, 4, 4, 35, 35, 35, 35, 35, 4, 4] := by kernel_rfl
theorem count41 : Tryd.prog.cellsOf 41 = 17 := by kernel_rfl
theorem list17of41 {cs : List Value} (h : cs.length = 17) : ∃ c0 c1 c2 c3 c4 c5 c6 c7 c8 c9 c10 c11 c12 c13 c14 c15 c16, cs = [c0, c1, c2, c3, c4, c5, c6, c7, c8, c9, c10, c11, c12, c13, c14, c15, c16] := by
  match cs, h with | [c0, c1, c2, c3, c4, c5, c6, c7, c8, c9, c10, c11, c12, c13, c14, c15, c16], _ => exact ⟨c0, c1, c2, c3, c4, c5, c6, c7, c8, c9, c10, c11, c12, c13, c14, c15, c16, rfl⟩
theorem open41 {W : World} {r : Reach} {base : Nat} {v : Value} (h : Value.okWide Tryd.prog W r base 41 v) :
    ∃ (f0 : Int) (f1 : Int) (f2 : Int) (f3 : Int) (f4 : Int) (f5 : Int) (f6 : Int) (f7 : Int) (f8 : Bool) (f9 : Bool) (f10 : Int) (f11 : Int) (f12 : Int) (f13 : Int) (f14 : Int) (f15 : Bool) (f16 : Bool), v = .agg #[.int .i64 f0, .int .i64 f1, .int .i64 f2, .int .u64 f3, .int .u64 f4, .int .u64 f5, .int .u64 f6, .int .u64 f7, .bool f8, .bool f9, .int .u64 f10, .int .u64 f11, .int .u64 f12, .int .u64 f13, .int .u64 f14, .bool f15, .bool f16] ∧ (-9223372036854775808 ≤ f0 ∧ f0 ≤ 9223372036854775807) ∧ (-9223372036854775808 ≤ f1 ∧ f1 ≤ 9223372036854775807) ∧ (-9223372036854775808 ≤ f2 ∧ f2 ≤ 9223372036854775807) ∧ (0 ≤ f3 ∧ f3 ≤ 18446744073709551615) ∧ (0 ≤ f4 ∧ f4 ≤ 18446744073709551615) ∧ (0 ≤ f5 ∧ f5 ≤ 18446744073709551615) ∧ (0 ≤ f6 ∧ f6 ≤ 18446744073709551615) ∧ (0 ≤ f7 ∧ f7 ≤ 18446744073709551615) ∧ (0 ≤ f10 ∧ f10 ≤ 18446744073709551615) ∧ (0 ≤ f11 ∧ f11 ≤ 18446744073709551615) ∧ (0 ≤ f12 ∧ f12 ≤ 18446744073709551615) ∧ (0 ≤ f13 ∧ f13 ≤ 18446744073709551615) ∧ (0 ≤ f14 ∧ f14 ≤ 18446744073709551615) := by
  obtain ⟨cs, rfl, hn, hc⟩ := Frm.agg_cells Tryd.underlying41 cells41 (by rw [count41]; rfl) h
  obtain ⟨c0, c1, c2, c3, c4, c5, c6, c7, c8, c9, c10, c11, c12, c13, c14, c15, c16, rfl⟩ := list17of41 hn
  obtain ⟨f0, rfl, g0⟩ := Frm.cell_int Tryd.underlying3 (hc 0 _ _ rfl rfl)
  obtain ⟨f1, rfl, g1⟩ := Frm.cell_int Tryd.underlying3 (hc 1 _ _ rfl rfl)
  obtain ⟨f2, rfl, g2⟩ := Frm.cell_int Tryd.underlying3 (hc 2 _ _ rfl rfl)
  obtain ⟨f3, rfl, g3⟩ := Frm.cell_int Tryd.underlying35 (hc 3 _ _ rfl rfl)
  obtain ⟨f4, rfl, g4⟩ := Frm.cell_int Tryd.underlying35 (hc 4 _ _ rfl rfl)
  obtain ⟨f5, rfl, g5⟩ := Frm.cell_int Tryd.underlying35 (hc 5 _ _ rfl rfl)
  obtain ⟨f6, rfl, g6⟩ := Frm.cell_int Tryd.underlying35 (hc 6 _ _ rfl rfl)
  obtain ⟨f7, rfl, g7⟩ := Frm.cell_int Tryd.underlying35 (hc 7 _ _ rfl rfl)
  obtain ⟨f8, rfl⟩ := Frm.cell_bool Tryd.underlying4 (hc 8 _ _ rfl rfl)
  obtain ⟨f9, rfl⟩ := Frm.cell_bool Tryd.underlying4 (hc 9 _ _ rfl rfl)
  obtain ⟨f10, rfl, g10⟩ := Frm.cell_int Tryd.underlying35 (hc 10 _ _ rfl rfl)
  obtain ⟨f11, rfl, g11⟩ := Frm.cell_int Tryd.underlying35 (hc 11 _ _ rfl rfl)
  obtain ⟨f12, rfl, g12⟩ := Frm.cell_int Tryd.underlying35 (hc 12 _ _ rfl rfl)
  obtain ⟨f13, rfl, g13⟩ := Frm.cell_int Tryd.underlying35 (hc 13 _ _ rfl rfl)
  obtain ⟨f14, rfl, g14⟩ := Frm.cell_int Tryd.underlying35 (hc 14 _ _ rfl rfl)
  obtain ⟨f15, rfl⟩ := Frm.cell_bool Tryd.underlying4 (hc 15 _ _ rfl rfl)
  obtain ⟨f16, rfl⟩ := Frm.cell_bool Tryd.underlying4 (hc 16 _ _ rfl rfl)
  exact ⟨f0, f1, f2, f3, f4, f5, f6, f7, f8, f9, f10, f11, f12, f13, f14, f15, f16, rfl, Frm.bd_i64 g0, Frm.bd_i64 g1, Frm.bd_i64 g2, Frm.bd_u64 g3, Frm.bd_u64 g4, Frm.bd_u64 g5, Frm.bd_u64 g6, Frm.bd_u64 g7, Frm.bd_u64 g10, Frm.bd_u64 g11, Frm.bd_u64 g12, Frm.bd_u64 g13, Frm.bd_u64 g14⟩

theorem count3 : Tryd.prog.cellsOf 3 = 1 := by kernel_rfl
open Pln Ned Crn Lai

theorem walk (w : World) (a0 : Int) (a1_Kind : Int) (a1_Target : Int) (a1_Active : Int) (a1_Span_Start_Minute : Int) (a1_Span_Start_Hour : Int) (a1_Span_Start_Day : Int) (a1_Span_Start_Month : Int) (a1_Span_Start_Week : Int) (a1_Span_Start_AnyDay : Bool) (a1_Span_Start_AnyWeek : Bool) (a1_Span_End_Minute : Int) (a1_Span_End_Hour : Int) (a1_Span_End_Day : Int) (a1_Span_End_Month : Int) (a1_Span_End_Week : Int) (a1_Span_End_AnyDay : Bool) (a1_Span_End_AnyWeek : Bool) (a2 : Option Addr) (a2_len a2_cap : Nat) (a2_X : Nat → Nat → Int) (a3 : Int) (b0 : (-9223372036854775808 ≤ a0 ∧ a0 ≤ 9223372036854775807)) (b1_Kind : (-9223372036854775808 ≤ a1_Kind ∧ a1_Kind ≤ 9223372036854775807)) (b1_Target : (-9223372036854775808 ≤ a1_Target ∧ a1_Target ≤ 9223372036854775807)) (b1_Active : (-9223372036854775808 ≤ a1_Active ∧ a1_Active ≤ 9223372036854775807)) (b1_Span_Start_Minute : (0 ≤ a1_Span_Start_Minute ∧ a1_Span_Start_Minute ≤ 18446744073709551615)) (b1_Span_Start_Hour : (0 ≤ a1_Span_Start_Hour ∧ a1_Span_Start_Hour ≤ 18446744073709551615)) (b1_Span_Start_Day : (0 ≤ a1_Span_Start_Day ∧ a1_Span_Start_Day ≤ 18446744073709551615)) (b1_Span_Start_Month : (0 ≤ a1_Span_Start_Month ∧ a1_Span_Start_Month ≤ 18446744073709551615)) (b1_Span_Start_Week : (0 ≤ a1_Span_Start_Week ∧ a1_Span_Start_Week ≤ 18446744073709551615)) (b1_Span_End_Minute : (0 ≤ a1_Span_End_Minute ∧ a1_Span_End_Minute ≤ 18446744073709551615)) (b1_Span_End_Hour : (0 ≤ a1_Span_End_Hour ∧ a1_Span_End_Hour ≤ 18446744073709551615)) (b1_Span_End_Day : (0 ≤ a1_Span_End_Day ∧ a1_Span_End_Day ≤ 18446744073709551615)) (b1_Span_End_Month : (0 ≤ a1_Span_End_Month ∧ a1_Span_End_Month ≤ 18446744073709551615)) (b1_Span_End_Week : (0 ≤ a1_Span_End_Week ∧ a1_Span_End_Week ≤ 18446744073709551615)) (b2_le : a2_len ≤ a2_cap) (b2_max : a2_cap ≤ maxLen) (b2 : Frm.RowsIn w a2 a2_len 1 a2_X) (b3 : (-9223372036854775808 ≤ a3 ∧ a3 ≤ 9223372036854775807)) (hB : Lai.BdsAt w) :
    Calls Tryd.prog 5 #[.int .i64 a0, .agg #[.int .i64 a1_Kind, .int .i64 a1_Target, .int .i64 a1_Active, .int .u64 a1_Span_Start_Minute, .int .u64 a1_Span_Start_Hour, .int .u64 a1_Span_Start_Day, .int .u64 a1_Span_Start_Month, .int .u64 a1_Span_Start_Week, .bool a1_Span_Start_AnyDay, .bool a1_Span_Start_AnyWeek, .int .u64 a1_Span_End_Minute, .int .u64 a1_Span_End_Hour, .int .u64 a1_Span_End_Day, .int .u64 a1_Span_End_Month, .int .u64 a1_Span_End_Week, .bool a1_Span_End_AnyDay, .bool a1_Span_End_AnyWeek], .slice a2 a2_len a2_cap, .int .i64 a3] w fun e w' => e = .returned (.bool true) ∧ Below w.heap.size w w' := by
  exact stays_any a0 ⟨a1_Kind, a1_Target, a1_Active, ⟨a1_Span_Start_Minute, a1_Span_Start_Hour, a1_Span_Start_Day, a1_Span_Start_Month, a1_Span_Start_Week, a1_Span_Start_AnyDay, a1_Span_Start_AnyWeek⟩, ⟨a1_Span_End_Minute, a1_Span_End_Hour, a1_Span_End_Day, a1_Span_End_Month, a1_Span_End_Week, a1_Span_End_AnyDay, a1_Span_End_AnyWeek⟩⟩ a2 a2_len a2_cap (fun i => a2_X i 0) a3 w hB ⟨b1_Span_Start_Minute, b1_Span_Start_Hour, b1_Span_Start_Day, b1_Span_Start_Month, b1_Span_Start_Week⟩ ⟨b1_Span_End_Minute, b1_Span_End_Hour, b1_Span_End_Day, b1_Span_End_Month, b1_Span_End_Week⟩ (Nat.le_trans b2_le b2_max) (ints_of b2)

theorem door_met (os : Os) (args : Array Value) : laidMetH Tryd.prog Rows.needStaysRow.laid ((World.doorLaid Tryd.prog 400 os).forCall (fun _ _ => 0) ⟨#[], args, []⟩).memory :=
  laidMetH_of_parts3 (fuel := 8) (laidMet_of_run' 8 (by kernel_rfl) (by kernel_rfl)) (by kernel_rfl) (by kernel_rfl)

set_option maxRecDepth 100000 in
theorem lifted (os : Os) (started : os.Started) (H : Type) (enc : TypeId × Value → H) :
    ReturnsInHanded {} Tryd.checked os 5 .any (fun w args => (Rows.needStaysSpec.pre enc Tryd.prog Tryd.f5 [] false w args ∧ laidMetH Tryd.prog Rows.needStaysRow.laid w) ∧ sizedMet enc Tryd.prog Tryd.f5 (OpenSpec.ofChange Rows.needStaysSpec) false w args)
      (Rows.needStaysSpec.post enc Tryd.prog Tryd.f5 false true false false) := by
  refine returnsInHanded_of_change_and (C := Tryd.checked) (X := fun w _ => laidMetH Tryd.prog Rows.needStaysRow.laid w) (fun _ _ _ hh h => h.of_heap hh) own started (by kernel_rfl) Tryd.func5
    (ChangeSpec.witness_shaped (enc := enc) (C := Tryd.checked) (os := os) (X := fun w _ => laidMetH Tryd.prog Rows.needStaysRow.laid w) false (World.doorLaid Tryd.prog 400 os) #[.int .i64 0, .agg #[.int .i64 0, .int .i64 0, .int .i64 0, .int .u64 0, .int .u64 0, .int .u64 0, .int .u64 0, .int .u64 0, .bool false, .bool false, .int .u64 0, .int .u64 0, .int .u64 0, .int .u64 0, .int .u64 0, .bool false, .bool false], .slice none 0 0, .int .i64 0] 8 rfl (World.shaped_of_RefB (by kernel_rfl) (by kernel_rfl)) (by kernel_rfl) (by kernel_rfl) (by kernel_rfl) (door_met os _)) ?_
  intro W base args ds gs before hval0 hW _ _ hL0 _
  have hval : ∀ (j : Nat) t v, Tryd.f5.params[j]? = some t → args[j]? = some v → Value.okWide Tryd.prog W .any base t v := hval0
  have hW' := hW
  obtain ⟨p, q, hA0, hV, rfl, hfz, hnd⟩ := hW
  have hA : DataW.TrodAll enc Tryd.prog W 0 (fun _ => true) true Tryd.f5.params.toList args.toList ds p := hA0
  rw [Tryd.params5] at hA hval
  obtain ⟨v0, vs0, d0, ds0, p0, q0, hargs, rfl, rfl, k0, r0⟩ := trodAll_cons hA
  obtain ⟨v1, vs1, d1, ds1, p1, q1, rfl, rfl, rfl, k1, r1⟩ := trodAll_cons r0
  obtain ⟨v2, vs2, d2, ds2, p2, q2, rfl, rfl, rfl, k2, r2⟩ := trodAll_cons r1
  obtain ⟨v3, vs3, d3, ds3, p3, q3, rfl, rfl, rfl, k3, r3⟩ := trodAll_cons r2
  obtain ⟨rfl, rfl, rfl⟩ := trodAll_nil r3
  obtain rfl : args = #[v0, v1, v2, v3] := by cases args; simp_all
  obtain ⟨rfl, rfl⟩ := trodVars_none hV
  have lt0 : ∀ x ∈ p0, x.block < W.heap.size := by obtain ⟨m, hm⟩ := k0; exact DataW.trod_lt m _ _ _ hm
  have lt1 : ∀ x ∈ p1, x.block < W.heap.size := by obtain ⟨m, hm⟩ := k1; exact DataW.trod_lt m _ _ _ hm
  have lt2 : ∀ x ∈ p2, x.block < W.heap.size := by obtain ⟨m, hm⟩ := k2; exact DataW.trod_lt m _ _ _ hm
  have lt3 : ∀ x ∈ p3, x.block < W.heap.size := by obtain ⟨m, hm⟩ := k3; exact DataW.trod_lt m _ _ _ hm
  obtain ⟨a0, rfl, g0⟩ := Frm.val_int Tryd.underlying3 (hval 0 3 v0 rfl rfl)
  obtain ⟨a1_Kind, a1_Target, a1_Active, a1_Span_Start_Minute, a1_Span_Start_Hour, a1_Span_Start_Day, a1_Span_Start_Month, a1_Span_Start_Week, a1_Span_Start_AnyDay, a1_Span_Start_AnyWeek, a1_Span_End_Minute, a1_Span_End_Hour, a1_Span_End_Day, a1_Span_End_Month, a1_Span_End_Week, a1_Span_End_AnyDay, a1_Span_End_AnyWeek, rfl, b1_Kind, b1_Target, b1_Active, b1_Span_Start_Minute, b1_Span_Start_Hour, b1_Span_Start_Day, b1_Span_Start_Month, b1_Span_Start_Week, b1_Span_End_Minute, b1_Span_End_Hour, b1_Span_End_Day, b1_Span_End_Month, b1_Span_End_Week⟩ := open41 (hval 1 41 v1 rfl rfl)
  obtain ⟨a2, a2_len, a2_cap, a2_X, rfl, b2_le, b2_max, b2⟩ := Frm.ints_open Tryd.underlying42 Tryd.underlying3 count3 (Go.WideShapes.okWide_slice Tryd.underlying42 (hval 2 42 v2 rfl rfl)) k2
  obtain ⟨a3, rfl, g3⟩ := Frm.val_int Tryd.underlying3 (hval 3 3 v3 rfl rfl)
  clear hA0 hval0
  have hL : laidMet Tryd.prog Rows.needStaysRow.laid W := by rwa [MakeChecks.laidMetH_plain _ _ _ (by kernel_rfl)] at hL0
  have hB : Lai.BdsAt W := Lai.bds_of (Lib.laidMet.reads hL (List.Mem.head _))
  refine (walk W a0 a1_Kind a1_Target a1_Active a1_Span_Start_Minute a1_Span_Start_Hour a1_Span_Start_Day a1_Span_Start_Month a1_Span_Start_Week a1_Span_Start_AnyDay a1_Span_Start_AnyWeek a1_Span_End_Minute a1_Span_End_Hour a1_Span_End_Day a1_Span_End_Month a1_Span_End_Week a1_Span_End_AnyDay a1_Span_End_AnyWeek a2 a2_len a2_cap a2_X a3 (Frm.bd_i64 g0) b1_Kind b1_Target b1_Active b1_Span_Start_Minute b1_Span_Start_Hour b1_Span_Start_Day b1_Span_Start_Month b1_Span_Start_Week b1_Span_End_Minute b1_Span_End_Hour b1_Span_End_Day b1_Span_End_Month b1_Span_End_Week b2_le b2_max b2 (Frm.bd_i64 g3) hB).mono fun e W' ⟨he, bel⟩ => ?_
  subst he
  exact ⟨_, rfl, _, _, _, [], _, [], hW', trodAll_mk1 (shut_bool Tryd.underlying4 _), (trodAll_cons_mk (Below.trod laidOut (by kernel_rfl) (of_decide_eq_true (by kernel_rfl)) k0 bel lt0) (trodAll_cons_mk (Below.trod laidOut (by kernel_rfl) (of_decide_eq_true (by kernel_rfl)) k1 bel lt1) (trodAll_cons_mk (Below.trod laidOut (by kernel_rfl) (of_decide_eq_true (by kernel_rfl)) k2 bel lt2) (trodAll_cons_mk (Below.trod laidOut (by kernel_rfl) (of_decide_eq_true (by kernel_rfl)) k3 bel lt3) trodAll_mk0)))), rfl, bel.frame _, fun h => by cases h⟩

theorem over : Rows.needStaysRow.holds Tryd.pinned (OpenSpec.ofChange Rows.needStaysSpec) :=
  OpenClaim.holds_of_wide 5 Tryd.f5 rfl rfl rfl rfl rfl rfl rfl ⟨rfl, rfl, rfl, rfl, rfl⟩ rfl rfl rfl rfl rfl (by kernel_rfl) Tryd.func5 (by kernel_rfl)
    (of_decide_eq_true (by kernel_rfl)) (by unfold Func.isWrapper; first | (rw [if_pos (by decide +kernel)]; kernel_rfl) | (rw [if_neg (by decide +kernel)]; exact ⟨rfl, rfl⟩))
    (fun os started H enc _ => lifted os started H enc)

theorem proved : Rows.NeedStaysCardSaid :=
  Claim7.holds_tied_plain_at .later [] [.wider] true (true, "c696c0458415dc5308f0a49072a0452e19772fa7f65f6867b263e1cb2932515f") false
    over (fun _ h => by cases h) (by kernel_rfl) (fun _ h => by cases h) needStays_row_tie rfl ⟨rfl, rfl⟩ (by kernel_rfl) rfl
    (fun f fn hf hfn => by
      obtain rfl : f = 5 := Option.some.inj ((show Tryd.prog.funcNamed "tidewheel/tidekeep.NeedStays" = some 5 by kernel_rfl).symm.trans hf) |>.symm
      obtain rfl : fn = Tryd.f5 := (Option.some.inj (Tryd.func5.symm.trans hfn)).symm
      exact ⟨by kernel_rfl, fun j t ht => by
        rw [Tryd.params5] at ht
        have hm : t ∈ [3, 41, 42, 3] := by simpa using Array.mem_of_getElem? ht
        have hall : ([3, 41, 42, 3].all fun u => !Tryd.prog.wantsStandIn u) = true := by kernel_rfl
        exact (show Tryd.prog.wantsStandIn t = false by simpa using List.all_eq_true.1 hall t hm)⟩)
    (by kernel_rfl)
#print axioms proved
end Go.Proofs.YtcaobnmfgnbolafDoor.needStays
