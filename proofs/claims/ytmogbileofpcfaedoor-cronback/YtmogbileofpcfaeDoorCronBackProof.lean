/- Proved: for every cron and every text: what Print writes is read back by Parse as the same cron, what Parse reads is written back, and a refused text leaves the zero cron. -/
import Derived.Test.YtmogbileofpcfaeDoorRows
import Derived.WalkKit
import Derived.ProofKit
import Derived.OpenShut
import Derived.ShutString
import Derived.ChangeOld
import Derived.Below
import Derived.Test.YtmogbileofpcfaeDoorFrame
import Derived.Lay
import Derived.LaidMore
import Derived.Stop.Joined
import Derived.SevenTiedAt
import Derived.Lib.LaidU8
import Derived.Test.YtmogbileofpcfaeDoorCards
import Derived.Test.YtmogbileofpcfaeDoorTie
import Derived.Test.YtmogbileofpcfaeDoorBackLaw
namespace Go.Proofs.YtmogbileofpcfaeDoor.cronBack
open Go.ChangeShapes Go.WideShapes Go.ChangeAt Go.RowKit
set_option linter.unusedVariables false
set_option maxRecDepth 8000

theorem own : ownKnob Tryd.prog.godebug = none := by kernel_rfl
theorem laidOut : laidOutB Tryd.prog = true := by kernel_rfl

theorem cells24 : Tryd.prog.cellTypes Tryd.prog.depth 24 = some [22, 22, 22, 22, 22, 4, 4] := by kernel_rfl
theorem count24 : Tryd.prog.cellsOf 24 = 7 := by kernel_rfl
theorem list7of24 {cs : List Value} (h : cs.length = 7) : ∃ c0 c1 c2 c3 c4 c5 c6, cs = [c0, c1, c2, c3, c4, c5, c6] := by
  match cs, h with | [c0, c1, c2, c3, c4, c5, c6], _ => exact ⟨c0, c1, c2, c3, c4, c5, c6, rfl⟩
theorem open24 {W : World} {r : Reach} {base : Nat} {v : Value} (h : Value.okWide Tryd.prog W r base 24 v) :
    ∃ (f0 : Int) (f1 : Int) (f2 : Int) (f3 : Int) (f4 : Int) (f5 : Bool) (f6 : Bool), v = .agg #[.int .u64 f0, .int .u64 f1, .int .u64 f2, .int .u64 f3, .int .u64 f4, .bool f5, .bool f6] ∧ (0 ≤ f0 ∧ f0 ≤ 18446744073709551615) ∧ (0 ≤ f1 ∧ f1 ≤ 18446744073709551615) ∧ (0 ≤ f2 ∧ f2 ≤ 18446744073709551615) ∧ (0 ≤ f3 ∧ f3 ≤ 18446744073709551615) ∧ (0 ≤ f4 ∧ f4 ≤ 18446744073709551615) := by
  obtain ⟨cs, rfl, hn, hc⟩ := Frm.agg_cells Tryd.underlying24 cells24 (by rw [count24]; rfl) h
  obtain ⟨c0, c1, c2, c3, c4, c5, c6, rfl⟩ := list7of24 hn
  obtain ⟨f0, rfl, g0⟩ := Frm.cell_int Tryd.underlying22 (hc 0 _ _ rfl rfl)
  obtain ⟨f1, rfl, g1⟩ := Frm.cell_int Tryd.underlying22 (hc 1 _ _ rfl rfl)
  obtain ⟨f2, rfl, g2⟩ := Frm.cell_int Tryd.underlying22 (hc 2 _ _ rfl rfl)
  obtain ⟨f3, rfl, g3⟩ := Frm.cell_int Tryd.underlying22 (hc 3 _ _ rfl rfl)
  obtain ⟨f4, rfl, g4⟩ := Frm.cell_int Tryd.underlying22 (hc 4 _ _ rfl rfl)
  obtain ⟨f5, rfl⟩ := Frm.cell_bool Tryd.underlying4 (hc 5 _ _ rfl rfl)
  obtain ⟨f6, rfl⟩ := Frm.cell_bool Tryd.underlying4 (hc 6 _ _ rfl rfl)
  exact ⟨f0, f1, f2, f3, f4, f5, f6, rfl, Frm.bd_u64 g0, Frm.bd_u64 g1, Frm.bd_u64 g2, Frm.bd_u64 g3, Frm.bd_u64 g4⟩

open Crn Lai Civ Pie

theorem walk (w : World) (a0_Minute : Int) (a0_Hour : Int) (a0_Day : Int) (a0_Month : Int) (a0_Week : Int) (a0_AnyDay : Bool) (a0_AnyWeek : Bool) (a1 : ByteArray) (b0_Minute : (0 ≤ a0_Minute ∧ a0_Minute ≤ 18446744073709551615)) (b0_Hour : (0 ≤ a0_Hour ∧ a0_Hour ≤ 18446744073709551615)) (b0_Day : (0 ≤ a0_Day ∧ a0_Day ≤ 18446744073709551615)) (b0_Month : (0 ≤ a0_Month ∧ a0_Month ≤ 18446744073709551615)) (b0_Week : (0 ≤ a0_Week ∧ a0_Week ≤ 18446744073709551615)) (b1 : (a1.size : Int) ≤ 9223372036854775807) (hT : Lai.TabIs64 w) (hB : Lai.BdsAt w) :
    Calls Tryd.prog 3 #[.agg #[.int .u64 a0_Minute, .int .u64 a0_Hour, .int .u64 a0_Day, .int .u64 a0_Month, .int .u64 a0_Week, .bool a0_AnyDay, .bool a0_AnyWeek], .string a1] w fun e w' => e = .returned (.bool true) ∧ Below w.heap.size w w' := by
  obtain ⟨s, rfl⟩ : ∃ s : List UInt8, a1 = ⟨s.toArray⟩ := ⟨a1.data.toList, by simp⟩
  cases hc : chkB a0_Minute a0_Hour a0_Day a0_Month a0_Week a0_AnyDay a0_AnyWeek
  · rcases parse_case s with ⟨E, hE, hQ⟩ | ⟨mi, ho, da, mn, we, ad, aw, c0, c1, c2, c3, c4, hc', hQ⟩
    · exact back_nn _ _ _ _ _ _ _ s w hB hT hc E hE hQ
    · exact back_ny _ _ _ _ _ _ _ s w hB hT hc mi ho da mn we ad aw c0 c1 c2 c3 c4 hc' hQ
  · rcases parse_case s with ⟨E, hE, hQ⟩ | ⟨mi, ho, da, mn, we, ad, aw, c0, c1, c2, c3, c4, hc', hQ⟩
    · exact back_yn _ _ _ _ _ _ _ s w hB hT b0_Minute b0_Hour b0_Day b0_Month b0_Week hc E hE hQ
    · exact back_yy _ _ _ _ _ _ _ s w hB hT b0_Minute b0_Hour b0_Day b0_Month b0_Week hc mi ho da mn we ad aw c0 c1 c2 c3 c4 hc' hQ

set_option maxRecDepth 100000 in
theorem lifted (os : Os) (started : os.Started) (H : Type) (enc : TypeId × Value → H) :
    ReturnsInHanded {} Tryd.checked os 3 .any (fun w args => (Rows.cronBackSpec.pre enc Tryd.prog Tryd.f3 [] false w args ∧ laidMetH Tryd.prog Rows.cronBackRow.laid w) ∧ sizedMet enc Tryd.prog Tryd.f3 (OpenSpec.ofChange Rows.cronBackSpec) false w args)
      (Rows.cronBackSpec.post enc Tryd.prog Tryd.f3 false true false false) := by
  refine returnsInHanded_of_change_and (C := Tryd.checked) (X := fun w _ => laidMetH Tryd.prog Rows.cronBackRow.laid w) (fun _ _ _ hh h => h.of_heap hh) own started (by kernel_rfl) Tryd.func3
    (ChangeSpec.witness_shaped (enc := enc) (C := Tryd.checked) (os := os) (X := fun w _ => laidMetH Tryd.prog Rows.cronBackRow.laid w) false (World.laidAll Tryd.prog os Rows.cronBackRow.laid) #[.agg #[.int .u64 0, .int .u64 0, .int .u64 0, .int .u64 0, .int .u64 0, .bool false, .bool false], .string ByteArray.empty] 8 (World.laidAll_os _ _ _) (World.shaped_of_ZipB (by kernel_rfl) (by kernel_rfl)) (by kernel_rfl) (by kernel_rfl) (by kernel_rfl) (by rw [MakeChecks.laidMetH_plain _ _ _ (by kernel_rfl)]; exact laidMet_laidAll _ (by kernel_rfl) (by kernel_rfl))) ?_
  intro W base args ds gs before hval0 hW _ _ hL0 _
  have hval : ∀ (j : Nat) t v, Tryd.f3.params[j]? = some t → args[j]? = some v → Value.okWide Tryd.prog W .any base t v := hval0
  have hW' := hW
  obtain ⟨p, q, hA0, hV, rfl, hfz, hnd⟩ := hW
  have hA : DataW.TrodAll enc Tryd.prog W 0 (fun _ => true) true Tryd.f3.params.toList args.toList ds p := hA0
  rw [Tryd.params3] at hA hval
  obtain ⟨v0, vs0, d0, ds0, p0, q0, hargs, rfl, rfl, k0, r0⟩ := trodAll_cons hA
  obtain ⟨v1, vs1, d1, ds1, p1, q1, rfl, rfl, rfl, k1, r1⟩ := trodAll_cons r0
  obtain ⟨rfl, rfl, rfl⟩ := trodAll_nil r1
  obtain rfl : args = #[v0, v1] := by cases args; simp_all
  obtain ⟨rfl, rfl⟩ := trodVars_none hV
  have lt0 : ∀ x ∈ p0, x.block < W.heap.size := by obtain ⟨m, hm⟩ := k0; exact DataW.trod_lt m _ _ _ hm
  have lt1 : ∀ x ∈ p1, x.block < W.heap.size := by obtain ⟨m, hm⟩ := k1; exact DataW.trod_lt m _ _ _ hm
  obtain ⟨a0_Minute, a0_Hour, a0_Day, a0_Month, a0_Week, a0_AnyDay, a0_AnyWeek, rfl, b0_Minute, b0_Hour, b0_Day, b0_Month, b0_Week⟩ := open24 (hval 0 24 v0 rfl rfl)
  obtain ⟨a1, rfl, g1⟩ := Frm.val_string Tryd.underlying9 (hval 1 9 v1 rfl rfl)
  clear hA0 hval0
  have hL : laidMet Tryd.prog Rows.cronBackRow.laid W := by rwa [MakeChecks.laidMetH_plain _ _ _ (by kernel_rfl)] at hL0
  have hT : Lai.TabIs64 W := Lai.tab64_of (Lib.laidMet.reads hL (List.Mem.tail _ (List.Mem.head _)))
  have hB : Lai.BdsAt W := Lai.bds_of (Lib.laidMet.reads hL (List.Mem.tail _ (List.Mem.tail _ (List.Mem.tail _ (List.Mem.tail _ (List.Mem.head _))))))
  refine (walk W a0_Minute a0_Hour a0_Day a0_Month a0_Week a0_AnyDay a0_AnyWeek a1 b0_Minute b0_Hour b0_Day b0_Month b0_Week (g1) hT hB).mono fun e W' ⟨he, bel⟩ => ?_
  subst he
  exact ⟨_, rfl, _, _, _, [], _, [], hW', trodAll_mk1 (shut_bool Tryd.underlying4 _), (trodAll_cons_mk (Below.trod laidOut (by kernel_rfl) (of_decide_eq_true (by kernel_rfl)) k0 bel lt0) (trodAll_cons_mk (Below.trod laidOut (by kernel_rfl) (of_decide_eq_true (by kernel_rfl)) k1 bel lt1) trodAll_mk0)), rfl, bel.frame _, fun h => by cases h⟩

theorem over : Rows.cronBackRow.holds Tryd.pinned (OpenSpec.ofChange Rows.cronBackSpec) :=
  OpenClaim.holds_of_wide 3 Tryd.f3 rfl rfl rfl rfl rfl rfl rfl ⟨rfl, rfl, rfl, rfl, rfl⟩ rfl rfl rfl rfl rfl (by kernel_rfl) Tryd.func3 (by kernel_rfl)
    (of_decide_eq_true (by kernel_rfl)) (by unfold Func.isWrapper; first | (rw [if_pos (by decide +kernel)]; kernel_rfl) | (rw [if_neg (by decide +kernel)]; exact ⟨rfl, rfl⟩))
    (fun os started H enc _ => lifted os started H enc)

theorem proved : Rows.CronBackCardSaid :=
  Claim7.holds_tied_plain_at .later [] [.data, .data, .data, .data, .wider, .pinned] true (true, "a3ddd3fb196e677f17190d1f17e9ae56db18a7f359ddb24532c65239c6c560e5") false
    over (fun _ h => by cases h) (by kernel_rfl) (fun _ h => by cases h) cronBack_row_tie rfl ⟨rfl, rfl⟩ (by kernel_rfl) rfl
    (fun f fn hf hfn => by
      obtain rfl : f = 3 := Option.some.inj ((show Tryd.prog.funcNamed "tidewheel/tidekeep.CronBack" = some 3 by kernel_rfl).symm.trans hf) |>.symm
      obtain rfl : fn = Tryd.f3 := (Option.some.inj (Tryd.func3.symm.trans hfn)).symm
      exact ⟨by kernel_rfl, fun j t ht => by
        rw [Tryd.params3] at ht
        have hm : t ∈ [24, 9] := by simpa using Array.mem_of_getElem? ht
        have hall : ([24, 9].all fun u => !Tryd.prog.wantsStandIn u) = true := by kernel_rfl
        exact (show Tryd.prog.wantsStandIn t = false by simpa using List.all_eq_true.1 hall t hm)⟩)
    (by kernel_rfl)
#print axioms proved
end Go.Proofs.YtmogbileofpcfaeDoor.cronBack
