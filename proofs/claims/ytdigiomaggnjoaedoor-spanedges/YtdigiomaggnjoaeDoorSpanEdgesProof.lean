/- Proved: for every span, time and shift: from now to the edge nothing turns; there it does. -/
import Derived.Test.YtdigiomaggnjoaeDoorRows
import Derived.WalkKit
import Derived.ProofKit
import Derived.OpenShut
import Derived.ShutString
import Derived.ChangeOld
import Derived.Below
import Derived.Test.YtdigiomaggnjoaeDoorFrame
import Derived.LaidMore
import Derived.Stop.Joined
import Derived.SevenTiedAt
import Derived.Lib.LaidU8
import Derived.Test.YtdigiomaggnjoaeDoorCards
import Derived.Test.YtdigiomaggnjoaeDoorTie
import Derived.Test.YtdigiomaggnjoaeDoorEdgesWalk
namespace Go.Proofs.YtdigiomaggnjoaeDoor.spanEdges
open Go.ChangeShapes Go.WideShapes Go.ChangeAt Go.RowKit
set_option linter.unusedVariables false
set_option maxRecDepth 8000

theorem own : ownKnob Tryd.prog.godebug = none := by kernel_rfl
theorem laidOut : laidOutB Tryd.prog = true := by kernel_rfl

theorem cells45 : Tryd.prog.cellTypes Tryd.prog.depth 45 = some [22, 22, 22, 22, 22, 4, 4, 22, 22, 22, 22, 22, 4, 4] := by kernel_rfl
theorem count45 : Tryd.prog.cellsOf 45 = 14 := by kernel_rfl
theorem list14of45 {cs : List Value} (h : cs.length = 14) : ∃ c0 c1 c2 c3 c4 c5 c6 c7 c8 c9 c10 c11 c12 c13, cs = [c0, c1, c2, c3, c4, c5, c6, c7, c8, c9, c10, c11, c12, c13] := by
  match cs, h with | [c0, c1, c2, c3, c4, c5, c6, c7, c8, c9, c10, c11, c12, c13], _ => exact ⟨c0, c1, c2, c3, c4, c5, c6, c7, c8, c9, c10, c11, c12, c13, rfl⟩
theorem open45 {W : World} {r : Reach} {base : Nat} {v : Value} (h : Value.okWide Tryd.prog W r base 45 v) :
    ∃ (f0 : Int) (f1 : Int) (f2 : Int) (f3 : Int) (f4 : Int) (f5 : Bool) (f6 : Bool) (f7 : Int) (f8 : Int) (f9 : Int) (f10 : Int) (f11 : Int) (f12 : Bool) (f13 : Bool), v = .agg #[.int .u64 f0, .int .u64 f1, .int .u64 f2, .int .u64 f3, .int .u64 f4, .bool f5, .bool f6, .int .u64 f7, .int .u64 f8, .int .u64 f9, .int .u64 f10, .int .u64 f11, .bool f12, .bool f13] ∧ (0 ≤ f0 ∧ f0 ≤ 18446744073709551615) ∧ (0 ≤ f1 ∧ f1 ≤ 18446744073709551615) ∧ (0 ≤ f2 ∧ f2 ≤ 18446744073709551615) ∧ (0 ≤ f3 ∧ f3 ≤ 18446744073709551615) ∧ (0 ≤ f4 ∧ f4 ≤ 18446744073709551615) ∧ (0 ≤ f7 ∧ f7 ≤ 18446744073709551615) ∧ (0 ≤ f8 ∧ f8 ≤ 18446744073709551615) ∧ (0 ≤ f9 ∧ f9 ≤ 18446744073709551615) ∧ (0 ≤ f10 ∧ f10 ≤ 18446744073709551615) ∧ (0 ≤ f11 ∧ f11 ≤ 18446744073709551615) := by
  obtain ⟨cs, rfl, hn, hc⟩ := Frm.agg_cells Tryd.underlying45 cells45 (by rw [count45]; rfl) h
  obtain ⟨c0, c1, c2, c3, c4, c5, c6, c7, c8, c9, c10, c11, c12, c13, rfl⟩ := list14of45 hn
  obtain ⟨f0, rfl, g0⟩ := Frm.cell_int Tryd.underlying22 (hc 0 _ _ rfl rfl)
  obtain ⟨f1, rfl, g1⟩ := Frm.cell_int Tryd.underlying22 (hc 1 _ _ rfl rfl)
  obtain ⟨f2, rfl, g2⟩ := Frm.cell_int Tryd.underlying22 (hc 2 _ _ rfl rfl)
  obtain ⟨f3, rfl, g3⟩ := Frm.cell_int Tryd.underlying22 (hc 3 _ _ rfl rfl)
  obtain ⟨f4, rfl, g4⟩ := Frm.cell_int Tryd.underlying22 (hc 4 _ _ rfl rfl)
  obtain ⟨f5, rfl⟩ := Frm.cell_bool Tryd.underlying4 (hc 5 _ _ rfl rfl)
  obtain ⟨f6, rfl⟩ := Frm.cell_bool Tryd.underlying4 (hc 6 _ _ rfl rfl)
  obtain ⟨f7, rfl, g7⟩ := Frm.cell_int Tryd.underlying22 (hc 7 _ _ rfl rfl)
  obtain ⟨f8, rfl, g8⟩ := Frm.cell_int Tryd.underlying22 (hc 8 _ _ rfl rfl)
  obtain ⟨f9, rfl, g9⟩ := Frm.cell_int Tryd.underlying22 (hc 9 _ _ rfl rfl)
  obtain ⟨f10, rfl, g10⟩ := Frm.cell_int Tryd.underlying22 (hc 10 _ _ rfl rfl)
  obtain ⟨f11, rfl, g11⟩ := Frm.cell_int Tryd.underlying22 (hc 11 _ _ rfl rfl)
  obtain ⟨f12, rfl⟩ := Frm.cell_bool Tryd.underlying4 (hc 12 _ _ rfl rfl)
  obtain ⟨f13, rfl⟩ := Frm.cell_bool Tryd.underlying4 (hc 13 _ _ rfl rfl)
  exact ⟨f0, f1, f2, f3, f4, f5, f6, f7, f8, f9, f10, f11, f12, f13, rfl, Frm.bd_u64 g0, Frm.bd_u64 g1, Frm.bd_u64 g2, Frm.bd_u64 g3, Frm.bd_u64 g4, Frm.bd_u64 g7, Frm.bd_u64 g8, Frm.bd_u64 g9, Frm.bd_u64 g10, Frm.bd_u64 g11⟩

open Crn Lai Civ

theorem walk (a0_Start_Minute : Int) (a0_Start_Hour : Int) (a0_Start_Day : Int) (a0_Start_Month : Int) (a0_Start_Week : Int) (a0_Start_AnyDay : Bool) (a0_Start_AnyWeek : Bool) (a0_End_Minute : Int) (a0_End_Hour : Int) (a0_End_Day : Int) (a0_End_Month : Int) (a0_End_Week : Int) (a0_End_AnyDay : Bool) (a0_End_AnyWeek : Bool) (a1 : Int) (a2 : Int) (a3 : Int) (b0_Start_Minute : (0 ≤ a0_Start_Minute ∧ a0_Start_Minute ≤ 18446744073709551615)) (b0_Start_Hour : (0 ≤ a0_Start_Hour ∧ a0_Start_Hour ≤ 18446744073709551615)) (b0_Start_Day : (0 ≤ a0_Start_Day ∧ a0_Start_Day ≤ 18446744073709551615)) (b0_Start_Month : (0 ≤ a0_Start_Month ∧ a0_Start_Month ≤ 18446744073709551615)) (b0_Start_Week : (0 ≤ a0_Start_Week ∧ a0_Start_Week ≤ 18446744073709551615)) (b0_End_Minute : (0 ≤ a0_End_Minute ∧ a0_End_Minute ≤ 18446744073709551615)) (b0_End_Hour : (0 ≤ a0_End_Hour ∧ a0_End_Hour ≤ 18446744073709551615)) (b0_End_Day : (0 ≤ a0_End_Day ∧ a0_End_Day ≤ 18446744073709551615)) (b0_End_Month : (0 ≤ a0_End_Month ∧ a0_End_Month ≤ 18446744073709551615)) (b0_End_Week : (0 ≤ a0_End_Week ∧ a0_End_Week ≤ 18446744073709551615)) (b1 : (-9223372036854775808 ≤ a1 ∧ a1 ≤ 9223372036854775807)) (b2 : (-9223372036854775808 ≤ a2 ∧ a2 ≤ 9223372036854775807)) (b3 : (-9223372036854775808 ≤ a3 ∧ a3 ≤ 9223372036854775807)) (w : World) (hT : Lai.TabIs64 w) (hB : Lai.BdsAt w) :
    Calls Tryd.prog 7 #[.agg #[.int .u64 a0_Start_Minute, .int .u64 a0_Start_Hour, .int .u64 a0_Start_Day, .int .u64 a0_Start_Month, .int .u64 a0_Start_Week, .bool a0_Start_AnyDay, .bool a0_Start_AnyWeek, .int .u64 a0_End_Minute, .int .u64 a0_End_Hour, .int .u64 a0_End_Day, .int .u64 a0_End_Month, .int .u64 a0_End_Week, .bool a0_End_AnyDay, .bool a0_End_AnyWeek], .int .i64 a1, .int .i64 a2, .int .i64 a3] w fun e w' => e = .returned (.bool true) ∧ Below w.heap.size w w' := by
  by_cases h : kc ⟨a0_Start_Minute, a0_Start_Hour, a0_Start_Day, a0_Start_Month, a0_Start_Week, a0_Start_AnyDay, a0_Start_AnyWeek⟩ = true ∧ kc ⟨a0_End_Minute, a0_End_Hour, a0_End_Day, a0_End_Month, a0_End_Week, a0_End_AnyDay, a0_End_AnyWeek⟩ = true ∧ tmB a1 = true ∧ shB a2 = true
  · by_cases hin : InP (mt ⟨a0_Start_Minute, a0_Start_Hour, a0_Start_Day, a0_Start_Month, a0_Start_Week, a0_Start_AnyDay, a0_Start_AnyWeek⟩) (mt ⟨a0_End_Minute, a0_End_Hour, a0_End_Day, a0_End_Month, a0_End_Week, a0_End_AnyDay, a0_End_AnyWeek⟩) (minOf a1 a2) a2
    · exact ed_in ⟨a0_Start_Minute, a0_Start_Hour, a0_Start_Day, a0_Start_Month, a0_Start_Week, a0_Start_AnyDay, a0_Start_AnyWeek⟩ ⟨a0_End_Minute, a0_End_Hour, a0_End_Day, a0_End_Month, a0_End_Week, a0_End_AnyDay, a0_End_AnyWeek⟩ _ _ _ w hB hT ⟨b0_Start_Minute, b0_Start_Hour, b0_Start_Day, b0_Start_Month, b0_Start_Week⟩ ⟨b0_End_Minute, b0_End_Hour, b0_End_Day, b0_End_Month, b0_End_Week⟩ h.1 h.2.1 h.2.2.1 h.2.2.2 hin
    · exact ed_out ⟨a0_Start_Minute, a0_Start_Hour, a0_Start_Day, a0_Start_Month, a0_Start_Week, a0_Start_AnyDay, a0_Start_AnyWeek⟩ ⟨a0_End_Minute, a0_End_Hour, a0_End_Day, a0_End_Month, a0_End_Week, a0_End_AnyDay, a0_End_AnyWeek⟩ _ _ _ w hB hT ⟨b0_Start_Minute, b0_Start_Hour, b0_Start_Day, b0_Start_Month, b0_Start_Week⟩ ⟨b0_End_Minute, b0_End_Hour, b0_End_Day, b0_End_Month, b0_End_Week⟩ h.1 h.2.1 h.2.2.1 h.2.2.2 hin
  · refine ed_no ⟨a0_Start_Minute, a0_Start_Hour, a0_Start_Day, a0_Start_Month, a0_Start_Week, a0_Start_AnyDay, a0_Start_AnyWeek⟩ ⟨a0_End_Minute, a0_End_Hour, a0_End_Day, a0_End_Month, a0_End_Week, a0_End_AnyDay, a0_End_AnyWeek⟩ _ _ _ w hB hT ?_
    cases h1 : kc ⟨a0_Start_Minute, a0_Start_Hour, a0_Start_Day, a0_Start_Month, a0_Start_Week, a0_Start_AnyDay, a0_Start_AnyWeek⟩
    · exact Or.inl rfl
    · cases h2 : kc ⟨a0_End_Minute, a0_End_Hour, a0_End_Day, a0_End_Month, a0_End_Week, a0_End_AnyDay, a0_End_AnyWeek⟩
      · exact Or.inr (Or.inl rfl)
      · cases h3 : tmB a1
        · exact Or.inr (Or.inr (Or.inl rfl))
        · cases h4 : shB a2
          · exact Or.inr (Or.inr (Or.inr rfl))
          · exact absurd ⟨h1, h2, h3, h4⟩ h

theorem door_met (os : Os) (args : Array Value) : laidMetH Tryd.prog Rows.spanEdgesRow.laid ((World.doorLaid Tryd.prog 400 os).forCall (fun _ _ => 0) ⟨#[], args, []⟩).memory :=
  laidMetH_of_parts3 (fuel := 8) (laidMet_of_run' 8 (by kernel_rfl) (by kernel_rfl)) (by kernel_rfl) (by kernel_rfl)

set_option maxRecDepth 100000 in
theorem lifted (os : Os) (started : os.Started) (H : Type) (enc : TypeId × Value → H) :
    ReturnsInHanded {} Tryd.checked os 7 .any (fun w args => (Rows.spanEdgesSpec.pre enc Tryd.prog Tryd.f7 [] false w args ∧ laidMetH Tryd.prog Rows.spanEdgesRow.laid w) ∧ sizedMet enc Tryd.prog Tryd.f7 (OpenSpec.ofChange Rows.spanEdgesSpec) false w args)
      (Rows.spanEdgesSpec.post enc Tryd.prog Tryd.f7 false true false false) := by
  refine returnsInHanded_of_change_and (C := Tryd.checked) (X := fun w _ => laidMetH Tryd.prog Rows.spanEdgesRow.laid w) (fun _ _ _ hh h => h.of_heap hh) own started (by kernel_rfl) Tryd.func7
    (ChangeSpec.witness_shaped (enc := enc) (C := Tryd.checked) (os := os) (X := fun w _ => laidMetH Tryd.prog Rows.spanEdgesRow.laid w) false (World.doorLaid Tryd.prog 400 os) #[.agg #[.int .u64 0, .int .u64 0, .int .u64 0, .int .u64 0, .int .u64 0, .bool false, .bool false, .int .u64 0, .int .u64 0, .int .u64 0, .int .u64 0, .int .u64 0, .bool false, .bool false], .int .i64 0, .int .i64 0, .int .i64 0] 8 rfl (World.shaped_of_RefB (by kernel_rfl) (by kernel_rfl)) (by kernel_rfl) (by kernel_rfl) (by kernel_rfl) (door_met os _)) ?_
  intro W base args ds gs before hval0 hW _ _ hL0 _
  have hval : ∀ (j : Nat) t v, Tryd.f7.params[j]? = some t → args[j]? = some v → Value.okWide Tryd.prog W .any base t v := hval0
  have hW' := hW
  obtain ⟨p, q, hA0, hV, rfl, hfz, hnd⟩ := hW
  have hA : DataW.TrodAll enc Tryd.prog W 0 (fun _ => true) true Tryd.f7.params.toList args.toList ds p := hA0
  rw [Tryd.params7] at hA hval
  obtain ⟨v0, vs0, d0, ds0, p0, q0, hargs, rfl, rfl, k0, r0⟩ := trodAll_cons hA
  obtain ⟨v1, vs1, d1, ds1, p1, q1, rfl, rfl, rfl, k1, r1⟩ := trodAll_cons r0
  obtain ⟨v2, vs2, d2, ds2, p2, q2, rfl, rfl, rfl, k2, r2⟩ := trodAll_cons r1
  obtain ⟨v3, vs3, d3, ds3, p3, q3, rfl, rfl, rfl, k3, r3⟩ := trodAll_cons r2
  obtain ⟨rfl, rfl, rfl⟩ := trodAll_nil r3
  obtain rfl : args = #[v0, v1, v2, v3] := by cases args; simp_all
  obtain ⟨rfl, rfl⟩ := trodVars_none hV
  have lt0 : ∀ x ∈ p0, x.block < W.heap.size := by obtain ⟨m, hm⟩ := k0; exact DataW.trod_lt m _ _ _ hm
  have lt1 : ∀ x ∈ p1, x.block < W.heap.size := by obtain ⟨m, hm⟩ := k1; exact DataW.trod_lt m _ _ _ hm
  have lt2 : ∀ x ∈ p2, x.block < W.heap.size := by obtain ⟨m, hm⟩ := k2; exact DataW.trod_lt m _ _ _ hm
  have lt3 : ∀ x ∈ p3, x.block < W.heap.size := by obtain ⟨m, hm⟩ := k3; exact DataW.trod_lt m _ _ _ hm
  obtain ⟨a0_Start_Minute, a0_Start_Hour, a0_Start_Day, a0_Start_Month, a0_Start_Week, a0_Start_AnyDay, a0_Start_AnyWeek, a0_End_Minute, a0_End_Hour, a0_End_Day, a0_End_Month, a0_End_Week, a0_End_AnyDay, a0_End_AnyWeek, rfl, b0_Start_Minute, b0_Start_Hour, b0_Start_Day, b0_Start_Month, b0_Start_Week, b0_End_Minute, b0_End_Hour, b0_End_Day, b0_End_Month, b0_End_Week⟩ := open45 (hval 0 45 v0 rfl rfl)
  obtain ⟨a1, rfl, g1⟩ := Frm.val_int Tryd.underlying3 (hval 1 3 v1 rfl rfl)
  obtain ⟨a2, rfl, g2⟩ := Frm.val_int Tryd.underlying3 (hval 2 3 v2 rfl rfl)
  obtain ⟨a3, rfl, g3⟩ := Frm.val_int Tryd.underlying3 (hval 3 3 v3 rfl rfl)
  clear hA0 hval0
  have hL : laidMet Tryd.prog Rows.spanEdgesRow.laid W := by rwa [MakeChecks.laidMetH_plain _ _ _ (by kernel_rfl)] at hL0
  have hT : Lai.TabIs64 W := Lai.tab64_of (Lib.laidMet.reads hL (List.Mem.head _))
  have hB : Lai.BdsAt W := Lai.bds_of (Lib.laidMet.reads hL (List.Mem.tail _ (List.Mem.head _)))
  refine (walk a0_Start_Minute a0_Start_Hour a0_Start_Day a0_Start_Month a0_Start_Week a0_Start_AnyDay a0_Start_AnyWeek a0_End_Minute a0_End_Hour a0_End_Day a0_End_Month a0_End_Week a0_End_AnyDay a0_End_AnyWeek a1 a2 a3 b0_Start_Minute b0_Start_Hour b0_Start_Day b0_Start_Month b0_Start_Week b0_End_Minute b0_End_Hour b0_End_Day b0_End_Month b0_End_Week (Frm.bd_i64 g1) (Frm.bd_i64 g2) (Frm.bd_i64 g3) W hT hB).mono fun e W' ⟨he, bel⟩ => ?_
  subst he
  exact ⟨_, rfl, _, _, _, [], _, [], hW', trodAll_mk1 (shut_bool Tryd.underlying4 _), (trodAll_cons_mk (Below.trod laidOut (by kernel_rfl) (of_decide_eq_true (by kernel_rfl)) k0 bel lt0) (trodAll_cons_mk (Below.trod laidOut (by kernel_rfl) (of_decide_eq_true (by kernel_rfl)) k1 bel lt1) (trodAll_cons_mk (Below.trod laidOut (by kernel_rfl) (of_decide_eq_true (by kernel_rfl)) k2 bel lt2) (trodAll_cons_mk (Below.trod laidOut (by kernel_rfl) (of_decide_eq_true (by kernel_rfl)) k3 bel lt3) trodAll_mk0)))), rfl, bel.frame _, fun h => by cases h⟩

theorem over : Rows.spanEdgesRow.holds Tryd.pinned (OpenSpec.ofChange Rows.spanEdgesSpec) :=
  OpenClaim.holds_of_wide 7 Tryd.f7 rfl rfl rfl rfl rfl rfl rfl ⟨rfl, rfl, rfl, rfl, rfl⟩ rfl rfl rfl rfl rfl (by kernel_rfl) Tryd.func7 (by kernel_rfl)
    (of_decide_eq_true (by kernel_rfl)) (by unfold Func.isWrapper; first | (rw [if_pos (by decide +kernel)]; kernel_rfl) | (rw [if_neg (by decide +kernel)]; exact ⟨rfl, rfl⟩))
    (fun os started H enc _ => lifted os started H enc)

theorem proved : Rows.SpanEdgesCardSaid :=
  Claim7.holds_tied_plain_at .later [] [.data, .wider] true (true, "a3ddd3fb196e677f17190d1f17e9ae56db18a7f359ddb24532c65239c6c560e5") false
    over (fun _ h => by cases h) (by kernel_rfl) (fun _ h => by cases h) spanEdges_row_tie rfl ⟨rfl, rfl⟩ (by kernel_rfl) rfl
    (fun f fn hf hfn => by
      obtain rfl : f = 7 := Option.some.inj ((show Tryd.prog.funcNamed "tidewheel/tidekeep.SpanEdges" = some 7 by kernel_rfl).symm.trans hf) |>.symm
      obtain rfl : fn = Tryd.f7 := (Option.some.inj (Tryd.func7.symm.trans hfn)).symm
      exact ⟨by kernel_rfl, fun j t ht => by
        rw [Tryd.params7] at ht
        have hm : t ∈ [45, 3, 3, 3] := by simpa using Array.mem_of_getElem? ht
        have hall : ([45, 3, 3, 3].all fun u => !Tryd.prog.wantsStandIn u) = true := by kernel_rfl
        exact (show Tryd.prog.wantsStandIn t = false by simpa using List.all_eq_true.1 hall t hm)⟩)
    (by kernel_rfl)
#print axioms proved
end Go.Proofs.YtdigiomaggnjoaeDoor.spanEdges
