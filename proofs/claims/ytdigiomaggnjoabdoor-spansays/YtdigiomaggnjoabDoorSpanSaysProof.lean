/- Proved: for every span, time and shift: Check, In and Edge answer what the document says. -/
import Derived.Test.YtdigiomaggnjoabDoorRows
import Derived.WalkKit
import Derived.ProofKit
import Derived.OpenShut
import Derived.ShutString
import Derived.ChangeOld
import Derived.Below
import Derived.Test.YtdigiomaggnjoabDoorFrame
import Derived.LaidMore
import Derived.Stop.Joined
import Derived.SevenTiedAt
import Derived.Lib.LaidU8
import Derived.Test.YtdigiomaggnjoabDoorCards
import Derived.Test.YtdigiomaggnjoabDoorTie
import Derived.Test.YtdigiomaggnjoabDoorSaysWalk
namespace Go.Proofs.YtdigiomaggnjoabDoor.spanSays
open Go.ChangeShapes Go.WideShapes Go.ChangeAt Go.RowKit
set_option linter.unusedVariables false
set_option maxRecDepth 8000

theorem own : ownKnob Tryd.prog.godebug = none := by kernel_rfl
theorem laidOut : laidOutB Tryd.prog = true := by kernel_rfl

theorem cells26 : Tryd.prog.cellTypes Tryd.prog.depth 26 = some [22, 22, 22, 22, 22, 4, 4, 22, 22, 22, 22, 22, 4, 4] := by kernel_rfl
theorem count26 : Tryd.prog.cellsOf 26 = 14 := by kernel_rfl
theorem list14of26 {cs : List Value} (h : cs.length = 14) : ∃ c0 c1 c2 c3 c4 c5 c6 c7 c8 c9 c10 c11 c12 c13, cs = [c0, c1, c2, c3, c4, c5, c6, c7, c8, c9, c10, c11, c12, c13] := by
  match cs, h with | [c0, c1, c2, c3, c4, c5, c6, c7, c8, c9, c10, c11, c12, c13], _ => exact ⟨c0, c1, c2, c3, c4, c5, c6, c7, c8, c9, c10, c11, c12, c13, rfl⟩
theorem open26 {W : World} {r : Reach} {base : Nat} {v : Value} (h : Value.okWide Tryd.prog W r base 26 v) :
    ∃ (f0 : Int) (f1 : Int) (f2 : Int) (f3 : Int) (f4 : Int) (f5 : Bool) (f6 : Bool) (f7 : Int) (f8 : Int) (f9 : Int) (f10 : Int) (f11 : Int) (f12 : Bool) (f13 : Bool), v = .agg #[.int .u64 f0, .int .u64 f1, .int .u64 f2, .int .u64 f3, .int .u64 f4, .bool f5, .bool f6, .int .u64 f7, .int .u64 f8, .int .u64 f9, .int .u64 f10, .int .u64 f11, .bool f12, .bool f13] ∧ (0 ≤ f0 ∧ f0 ≤ 18446744073709551615) ∧ (0 ≤ f1 ∧ f1 ≤ 18446744073709551615) ∧ (0 ≤ f2 ∧ f2 ≤ 18446744073709551615) ∧ (0 ≤ f3 ∧ f3 ≤ 18446744073709551615) ∧ (0 ≤ f4 ∧ f4 ≤ 18446744073709551615) ∧ (0 ≤ f7 ∧ f7 ≤ 18446744073709551615) ∧ (0 ≤ f8 ∧ f8 ≤ 18446744073709551615) ∧ (0 ≤ f9 ∧ f9 ≤ 18446744073709551615) ∧ (0 ≤ f10 ∧ f10 ≤ 18446744073709551615) ∧ (0 ≤ f11 ∧ f11 ≤ 18446744073709551615) := by
  obtain ⟨cs, rfl, hn, hc⟩ := Frm.agg_cells Tryd.underlying26 cells26 (by rw [count26]; rfl) h
  obtain ⟨c0, c1, c2, c3, c4, c5, c6, c7, c8, c9, c10, c11, c12, c13, rfl⟩ := list14of26 hn
  obtain ⟨f0, rfl, g0⟩ := Frm.cell_int Tryd.underlying22 (hc 0 _ _ rfl rfl)
  obtain ⟨f1, rfl, g1⟩ := Frm.cell_int Tryd.underlying22 (hc 1 _ _ rfl rfl)
  obtain ⟨f2, rfl, g2⟩ := Frm.cell_int Tryd.underlying22 (hc 2 _ _ rfl rfl)
  obtain ⟨f3, rfl, g3⟩ := Frm.cell_int Tryd.underlying22 (hc 3 _ _ rfl rfl)
  obtain ⟨f4, rfl, g4⟩ := Frm.cell_int Tryd.underlying22 (hc 4 _ _ rfl rfl)
  obtain ⟨f5, rfl⟩ := Frm.cell_bool Tryd.underlying4 (hc 5 _ _ rfl rfl)
  obtain ⟨f6, rfl⟩ := Frm.cell_bool Tryd.underlying4 (hc 6 _ _ rfl rfl)
  obtain ⟨f7, rfl, g7⟩ := Frm.cell_int Tryd.underlying22 (hc 7 _ _ rfl rfl)
  obtain ⟨f8, rfl, g8⟩ := Frm.cell_int Tryd.underlying22 (hc 8 _ _ rfl rfl)
  obtain ⟨f9, rfl, g9⟩ := Frm.cell_int Tryd.underlying22 (hc 9 _ _ rfl rfl)
  obtain ⟨f10, rfl, g10⟩ := Frm.cell_int Tryd.underlying22 (hc 10 _ _ rfl rfl)
  obtain ⟨f11, rfl, g11⟩ := Frm.cell_int Tryd.underlying22 (hc 11 _ _ rfl rfl)
  obtain ⟨f12, rfl⟩ := Frm.cell_bool Tryd.underlying4 (hc 12 _ _ rfl rfl)
  obtain ⟨f13, rfl⟩ := Frm.cell_bool Tryd.underlying4 (hc 13 _ _ rfl rfl)
  exact ⟨f0, f1, f2, f3, f4, f5, f6, f7, f8, f9, f10, f11, f12, f13, rfl, Frm.bd_u64 g0, Frm.bd_u64 g1, Frm.bd_u64 g2, Frm.bd_u64 g3, Frm.bd_u64 g4, Frm.bd_u64 g7, Frm.bd_u64 g8, Frm.bd_u64 g9, Frm.bd_u64 g10, Frm.bd_u64 g11⟩

open Crn Lai Civ RCrn

theorem walk (a0_Start_Minute : Int) (a0_Start_Hour : Int) (a0_Start_Day : Int) (a0_Start_Month : Int) (a0_Start_Week : Int) (a0_Start_AnyDay : Bool) (a0_Start_AnyWeek : Bool) (a0_End_Minute : Int) (a0_End_Hour : Int) (a0_End_Day : Int) (a0_End_Month : Int) (a0_End_Week : Int) (a0_End_AnyDay : Bool) (a0_End_AnyWeek : Bool) (a1 : Int) (a2 : Int) (b0_Start_Minute : (0 ≤ a0_Start_Minute ∧ a0_Start_Minute ≤ 18446744073709551615)) (b0_Start_Hour : (0 ≤ a0_Start_Hour ∧ a0_Start_Hour ≤ 18446744073709551615)) (b0_Start_Day : (0 ≤ a0_Start_Day ∧ a0_Start_Day ≤ 18446744073709551615)) (b0_Start_Month : (0 ≤ a0_Start_Month ∧ a0_Start_Month ≤ 18446744073709551615)) (b0_Start_Week : (0 ≤ a0_Start_Week ∧ a0_Start_Week ≤ 18446744073709551615)) (b0_End_Minute : (0 ≤ a0_End_Minute ∧ a0_End_Minute ≤ 18446744073709551615)) (b0_End_Hour : (0 ≤ a0_End_Hour ∧ a0_End_Hour ≤ 18446744073709551615)) (b0_End_Day : (0 ≤ a0_End_Day ∧ a0_End_Day ≤ 18446744073709551615)) (b0_End_Month : (0 ≤ a0_End_Month ∧ a0_End_Month ≤ 18446744073709551615)) (b0_End_Week : (0 ≤ a0_End_Week ∧ a0_End_Week ≤ 18446744073709551615)) (b1 : (-9223372036854775808 ≤ a1 ∧ a1 ≤ 9223372036854775807)) (b2 : (-9223372036854775808 ≤ a2 ∧ a2 ≤ 9223372036854775807)) (w : World) (hT : Lai.TabIs64 w) (hB : Lai.BdsAt w) :
    Calls Tryd.prog 3 #[.agg #[.int .u64 a0_Start_Minute, .int .u64 a0_Start_Hour, .int .u64 a0_Start_Day, .int .u64 a0_Start_Month, .int .u64 a0_Start_Week, .bool a0_Start_AnyDay, .bool a0_Start_AnyWeek, .int .u64 a0_End_Minute, .int .u64 a0_End_Hour, .int .u64 a0_End_Day, .int .u64 a0_End_Month, .int .u64 a0_End_Week, .bool a0_End_AnyDay, .bool a0_End_AnyWeek], .int .i64 a1, .int .i64 a2] w fun e w' => e = .returned (.bool true) ∧ Below w.heap.size w w' := by
  cases ha : kc ⟨a0_Start_Minute, a0_Start_Hour, a0_Start_Day, a0_Start_Month, a0_Start_Week, a0_Start_AnyDay, a0_Start_AnyWeek⟩
  · exact ss_bad ⟨a0_Start_Minute, a0_Start_Hour, a0_Start_Day, a0_Start_Month, a0_Start_Week, a0_Start_AnyDay, a0_Start_AnyWeek⟩ ⟨a0_End_Minute, a0_End_Hour, a0_End_Day, a0_End_Month, a0_End_Week, a0_End_AnyDay, a0_End_AnyWeek⟩ _ _ w hB hT ⟨b0_Start_Minute, b0_Start_Hour, b0_Start_Day, b0_Start_Month, b0_Start_Week⟩ ⟨b0_End_Minute, b0_End_Hour, b0_End_Day, b0_End_Month, b0_End_Week⟩ (Or.inl ha)
  cases hb : kc ⟨a0_End_Minute, a0_End_Hour, a0_End_Day, a0_End_Month, a0_End_Week, a0_End_AnyDay, a0_End_AnyWeek⟩
  · exact ss_bad ⟨a0_Start_Minute, a0_Start_Hour, a0_Start_Day, a0_Start_Month, a0_Start_Week, a0_Start_AnyDay, a0_Start_AnyWeek⟩ ⟨a0_End_Minute, a0_End_Hour, a0_End_Day, a0_End_Month, a0_End_Week, a0_End_AnyDay, a0_End_AnyWeek⟩ _ _ w hB hT ⟨b0_Start_Minute, b0_Start_Hour, b0_Start_Day, b0_Start_Month, b0_Start_Week⟩ ⟨b0_End_Minute, b0_End_Hour, b0_End_Day, b0_End_Month, b0_End_Week⟩ (Or.inr hb)
  cases ht : tmB a1
  · exact ss_no ⟨a0_Start_Minute, a0_Start_Hour, a0_Start_Day, a0_Start_Month, a0_Start_Week, a0_Start_AnyDay, a0_Start_AnyWeek⟩ ⟨a0_End_Minute, a0_End_Hour, a0_End_Day, a0_End_Month, a0_End_Week, a0_End_AnyDay, a0_End_AnyWeek⟩ _ _ w hB hT ⟨b0_Start_Minute, b0_Start_Hour, b0_Start_Day, b0_Start_Month, b0_Start_Week⟩ ⟨b0_End_Minute, b0_End_Hour, b0_End_Day, b0_End_Month, b0_End_Week⟩ ha hb (Or.inl ht)
  cases hs : shB a2
  · exact ss_no ⟨a0_Start_Minute, a0_Start_Hour, a0_Start_Day, a0_Start_Month, a0_Start_Week, a0_Start_AnyDay, a0_Start_AnyWeek⟩ ⟨a0_End_Minute, a0_End_Hour, a0_End_Day, a0_End_Month, a0_End_Week, a0_End_AnyDay, a0_End_AnyWeek⟩ _ _ w hB hT ⟨b0_Start_Minute, b0_Start_Hour, b0_Start_Day, b0_Start_Month, b0_Start_Week⟩ ⟨b0_End_Minute, b0_End_Hour, b0_End_Day, b0_End_Month, b0_End_Week⟩ ha hb (Or.inr hs)
  by_cases hin : InP (mt ⟨a0_Start_Minute, a0_Start_Hour, a0_Start_Day, a0_Start_Month, a0_Start_Week, a0_Start_AnyDay, a0_Start_AnyWeek⟩) (mt ⟨a0_End_Minute, a0_End_Hour, a0_End_Day, a0_End_Month, a0_End_Week, a0_End_AnyDay, a0_End_AnyWeek⟩) (minOf a1 a2) a2
  · exact ss_in ⟨a0_Start_Minute, a0_Start_Hour, a0_Start_Day, a0_Start_Month, a0_Start_Week, a0_Start_AnyDay, a0_Start_AnyWeek⟩ ⟨a0_End_Minute, a0_End_Hour, a0_End_Day, a0_End_Month, a0_End_Week, a0_End_AnyDay, a0_End_AnyWeek⟩ _ _ w hB hT ⟨b0_Start_Minute, b0_Start_Hour, b0_Start_Day, b0_Start_Month, b0_Start_Week⟩ ⟨b0_End_Minute, b0_End_Hour, b0_End_Day, b0_End_Month, b0_End_Week⟩ ha hb ht hs hin
  · exact ss_out ⟨a0_Start_Minute, a0_Start_Hour, a0_Start_Day, a0_Start_Month, a0_Start_Week, a0_Start_AnyDay, a0_Start_AnyWeek⟩ ⟨a0_End_Minute, a0_End_Hour, a0_End_Day, a0_End_Month, a0_End_Week, a0_End_AnyDay, a0_End_AnyWeek⟩ _ _ w hB hT ⟨b0_Start_Minute, b0_Start_Hour, b0_Start_Day, b0_Start_Month, b0_Start_Week⟩ ⟨b0_End_Minute, b0_End_Hour, b0_End_Day, b0_End_Month, b0_End_Week⟩ ha hb ht hs hin

theorem door_met (os : Os) (args : Array Value) : laidMetH Tryd.prog Rows.spanSaysRow.laid ((World.doorLaid Tryd.prog 400 os).forCall (fun _ _ => 0) ⟨#[], args, []⟩).memory :=
  laidMetH_of_parts3 (fuel := 8) (laidMet_of_run' 8 (by kernel_rfl) (by kernel_rfl)) (by kernel_rfl) (by kernel_rfl)

set_option maxRecDepth 100000 in
theorem lifted (os : Os) (started : os.Started) (H : Type) (enc : TypeId × Value → H) :
    ReturnsInHanded {} Tryd.checked os 3 .any (fun w args => (Rows.spanSaysSpec.pre enc Tryd.prog Tryd.f3 [] false w args ∧ laidMetH Tryd.prog Rows.spanSaysRow.laid w) ∧ sizedMet enc Tryd.prog Tryd.f3 (OpenSpec.ofChange Rows.spanSaysSpec) false w args)
      (Rows.spanSaysSpec.post enc Tryd.prog Tryd.f3 false true false false) := by
  refine returnsInHanded_of_change_and (C := Tryd.checked) (X := fun w _ => laidMetH Tryd.prog Rows.spanSaysRow.laid w) (fun _ _ _ hh h => h.of_heap hh) own started (by kernel_rfl) Tryd.func3
    (ChangeSpec.witness_shaped (enc := enc) (C := Tryd.checked) (os := os) (X := fun w _ => laidMetH Tryd.prog Rows.spanSaysRow.laid w) false (World.doorLaid Tryd.prog 400 os) #[.agg #[.int .u64 0, .int .u64 0, .int .u64 0, .int .u64 0, .int .u64 0, .bool false, .bool false, .int .u64 0, .int .u64 0, .int .u64 0, .int .u64 0, .int .u64 0, .bool false, .bool false], .int .i64 0, .int .i64 0] 8 rfl (World.shaped_of_RefB (by kernel_rfl) (by kernel_rfl)) (by kernel_rfl) (by kernel_rfl) (by kernel_rfl) (door_met os _)) ?_
  intro W base args ds gs before hval0 hW _ _ hL0 _
  have hval : ∀ (j : Nat) t v, Tryd.f3.params[j]? = some t → args[j]? = some v → Value.okWide Tryd.prog W .any base t v := hval0
  have hW' := hW
  obtain ⟨p, q, hA0, hV, rfl, hfz, hnd⟩ := hW
  have hA : DataW.TrodAll enc Tryd.prog W 0 (fun _ => true) true Tryd.f3.params.toList args.toList ds p := hA0
  rw [Tryd.params3] at hA hval
  obtain ⟨v0, vs0, d0, ds0, p0, q0, hargs, rfl, rfl, k0, r0⟩ := trodAll_cons hA
  obtain ⟨v1, vs1, d1, ds1, p1, q1, rfl, rfl, rfl, k1, r1⟩ := trodAll_cons r0
  obtain ⟨v2, vs2, d2, ds2, p2, q2, rfl, rfl, rfl, k2, r2⟩ := trodAll_cons r1
  obtain ⟨rfl, rfl, rfl⟩ := trodAll_nil r2
  obtain rfl : args = #[v0, v1, v2] := by cases args; simp_all
  obtain ⟨rfl, rfl⟩ := trodVars_none hV
  have lt0 : ∀ x ∈ p0, x.block < W.heap.size := by obtain ⟨m, hm⟩ := k0; exact DataW.trod_lt m _ _ _ hm
  have lt1 : ∀ x ∈ p1, x.block < W.heap.size := by obtain ⟨m, hm⟩ := k1; exact DataW.trod_lt m _ _ _ hm
  have lt2 : ∀ x ∈ p2, x.block < W.heap.size := by obtain ⟨m, hm⟩ := k2; exact DataW.trod_lt m _ _ _ hm
  obtain ⟨a0_Start_Minute, a0_Start_Hour, a0_Start_Day, a0_Start_Month, a0_Start_Week, a0_Start_AnyDay, a0_Start_AnyWeek, a0_End_Minute, a0_End_Hour, a0_End_Day, a0_End_Month, a0_End_Week, a0_End_AnyDay, a0_End_AnyWeek, rfl, b0_Start_Minute, b0_Start_Hour, b0_Start_Day, b0_Start_Month, b0_Start_Week, b0_End_Minute, b0_End_Hour, b0_End_Day, b0_End_Month, b0_End_Week⟩ := open26 (hval 0 26 v0 rfl rfl)
  obtain ⟨a1, rfl, g1⟩ := Frm.val_int Tryd.underlying3 (hval 1 3 v1 rfl rfl)
  obtain ⟨a2, rfl, g2⟩ := Frm.val_int Tryd.underlying3 (hval 2 3 v2 rfl rfl)
  clear hA0 hval0
  have hL : laidMet Tryd.prog Rows.spanSaysRow.laid W := by rwa [MakeChecks.laidMetH_plain _ _ _ (by kernel_rfl)] at hL0
  have hT : Lai.TabIs64 W := Lai.tab64_of (Lib.laidMet.reads hL (List.Mem.head _))
  have hB : Lai.BdsAt W := Lai.bds_of (Lib.laidMet.reads hL (List.Mem.tail _ (List.Mem.head _)))
  refine (walk a0_Start_Minute a0_Start_Hour a0_Start_Day a0_Start_Month a0_Start_Week a0_Start_AnyDay a0_Start_AnyWeek a0_End_Minute a0_End_Hour a0_End_Day a0_End_Month a0_End_Week a0_End_AnyDay a0_End_AnyWeek a1 a2 b0_Start_Minute b0_Start_Hour b0_Start_Day b0_Start_Month b0_Start_Week b0_End_Minute b0_End_Hour b0_End_Day b0_End_Month b0_End_Week (Frm.bd_i64 g1) (Frm.bd_i64 g2) W hT hB).mono fun e W' ⟨he, bel⟩ => ?_
  subst he
  exact ⟨_, rfl, _, _, _, [], _, [], hW', trodAll_mk1 (shut_bool Tryd.underlying4 _), (trodAll_cons_mk (Below.trod laidOut (by kernel_rfl) (of_decide_eq_true (by kernel_rfl)) k0 bel lt0) (trodAll_cons_mk (Below.trod laidOut (by kernel_rfl) (of_decide_eq_true (by kernel_rfl)) k1 bel lt1) (trodAll_cons_mk (Below.trod laidOut (by kernel_rfl) (of_decide_eq_true (by kernel_rfl)) k2 bel lt2) trodAll_mk0))), rfl, bel.frame _, fun h => by cases h⟩

theorem over : Rows.spanSaysRow.holds Tryd.pinned (OpenSpec.ofChange Rows.spanSaysSpec) :=
  OpenClaim.holds_of_wide 3 Tryd.f3 rfl rfl rfl rfl rfl rfl rfl ⟨rfl, rfl, rfl, rfl, rfl⟩ rfl rfl rfl rfl rfl (by kernel_rfl) Tryd.func3 (by kernel_rfl)
    (of_decide_eq_true (by kernel_rfl)) (by unfold Func.isWrapper; first | (rw [if_pos (by decide +kernel)]; kernel_rfl) | (rw [if_neg (by decide +kernel)]; exact ⟨rfl, rfl⟩))
    (fun os started H enc _ => lifted os started H enc)

theorem proved : Rows.SpanSaysCardSaid :=
  Claim7.holds_tied_plain_at .later [] [.data, .wider] true (true, "b3c10023be8663a8510e14f5f42b1770a23f40bdb1eb9fc5de4af8c4c41e300c") false
    over (fun _ h => by cases h) (by kernel_rfl) (fun _ h => by cases h) spanSays_row_tie rfl ⟨rfl, rfl⟩ (by kernel_rfl) rfl
    (fun f fn hf hfn => by
      obtain rfl : f = 3 := Option.some.inj ((show Tryd.prog.funcNamed "tidewheel/tidelaw.SpanSays" = some 3 by kernel_rfl).symm.trans hf) |>.symm
      obtain rfl : fn = Tryd.f3 := (Option.some.inj (Tryd.func3.symm.trans hfn)).symm
      exact ⟨by kernel_rfl, fun j t ht => by
        rw [Tryd.params3] at ht
        have hm : t ∈ [26, 3, 3] := by simpa using Array.mem_of_getElem? ht
        have hall : ([26, 3, 3].all fun u => !Tryd.prog.wantsStandIn u) = true := by kernel_rfl
        exact (show Tryd.prog.wantsStandIn t = false by simpa using List.all_eq_true.1 hall t hm)⟩)
    (by kernel_rfl)
#print axioms proved
end Go.Proofs.YtdigiomaggnjoabDoor.spanSays
