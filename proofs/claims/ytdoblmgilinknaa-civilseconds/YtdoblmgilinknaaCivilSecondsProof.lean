/- Proved: tidelaw.CivilSeconds answers true for every api.Civil c and int shift (no condition): civil.Seconds answers what the document's own counting (tideref.Seconds) answers. -/
import Derived.Test.YtdoblmgilinknaaRows
import Derived.WalkKit
import Derived.ProofKit
import Derived.OpenShut
import Derived.ShutString
import Derived.ChangeOld
import Derived.Below
import Derived.Test.YtdoblmgilinknaaFrame
import Derived.Test.YtdoblmgilinknaaRefCivil2
namespace Go.Proofs.Ytdoblmgilinknaa.civilSeconds
open Go.ChangeShapes Go.WideShapes Go.ChangeAt Go.RowKit
set_option linter.unusedVariables false

theorem own : ownKnob Try.prog.godebug = none := by kernel_rfl
theorem laidOut : laidOutB Try.prog = true := by kernel_rfl

theorem cells30 : Try.prog.cellTypes Try.prog.depth 30 = some [3, 3, 3, 3, 3, 3, 3] := by kernel_rfl
theorem count30 : Try.prog.cellsOf 30 = 7 := by kernel_rfl
theorem list7of30 {cs : List Value} (h : cs.length = 7) : ∃ c0 c1 c2 c3 c4 c5 c6, cs = [c0, c1, c2, c3, c4, c5, c6] := by
  match cs, h with | [c0, c1, c2, c3, c4, c5, c6], _ => exact ⟨c0, c1, c2, c3, c4, c5, c6, rfl⟩
theorem open30 {W : World} {r : Reach} {base : Nat} {v : Value} (h : Value.okWide Try.prog W r base 30 v) :
    ∃ (f0 : Int) (f1 : Int) (f2 : Int) (f3 : Int) (f4 : Int) (f5 : Int) (f6 : Int), v = .agg #[.int .i64 f0, .int .i64 f1, .int .i64 f2, .int .i64 f3, .int .i64 f4, .int .i64 f5, .int .i64 f6] ∧ (-9223372036854775808 ≤ f0 ∧ f0 ≤ 9223372036854775807) ∧ (-9223372036854775808 ≤ f1 ∧ f1 ≤ 9223372036854775807) ∧ (-9223372036854775808 ≤ f2 ∧ f2 ≤ 9223372036854775807) ∧ (-9223372036854775808 ≤ f3 ∧ f3 ≤ 9223372036854775807) ∧ (-9223372036854775808 ≤ f4 ∧ f4 ≤ 9223372036854775807) ∧ (-9223372036854775808 ≤ f5 ∧ f5 ≤ 9223372036854775807) ∧ (-9223372036854775808 ≤ f6 ∧ f6 ≤ 9223372036854775807) := by
  obtain ⟨cs, rfl, hn, hc⟩ := Frm.agg_cells Try.underlying30 cells30 (by rw [count30]; rfl) h
  obtain ⟨c0, c1, c2, c3, c4, c5, c6, rfl⟩ := list7of30 hn
  obtain ⟨f0, rfl, g0⟩ := Frm.cell_int Try.underlying3 (hc 0 _ _ rfl rfl)
  obtain ⟨f1, rfl, g1⟩ := Frm.cell_int Try.underlying3 (hc 1 _ _ rfl rfl)
  obtain ⟨f2, rfl, g2⟩ := Frm.cell_int Try.underlying3 (hc 2 _ _ rfl rfl)
  obtain ⟨f3, rfl, g3⟩ := Frm.cell_int Try.underlying3 (hc 3 _ _ rfl rfl)
  obtain ⟨f4, rfl, g4⟩ := Frm.cell_int Try.underlying3 (hc 4 _ _ rfl rfl)
  obtain ⟨f5, rfl, g5⟩ := Frm.cell_int Try.underlying3 (hc 5 _ _ rfl rfl)
  obtain ⟨f6, rfl, g6⟩ := Frm.cell_int Try.underlying3 (hc 6 _ _ rfl rfl)
  exact ⟨f0, f1, f2, f3, f4, f5, f6, rfl, Frm.bd_i64 g0, Frm.bd_i64 g1, Frm.bd_i64 g2, Frm.bd_i64 g3, Frm.bd_i64 g4, Frm.bd_i64 g5, Frm.bd_i64 g6⟩

open Cal Civ RCiv

set_option maxHeartbeats 2000000 in
theorem walk (a0_Year : Int) (a0_Month : Int) (a0_Day : Int) (a0_Hour : Int) (a0_Minute : Int) (a0_Second : Int) (a0_Week : Int) (a1 : Int) (b0_Year : (-9223372036854775808 ≤ a0_Year ∧ a0_Year ≤ 9223372036854775807)) (b0_Month : (-9223372036854775808 ≤ a0_Month ∧ a0_Month ≤ 9223372036854775807)) (b0_Day : (-9223372036854775808 ≤ a0_Day ∧ a0_Day ≤ 9223372036854775807)) (b0_Hour : (-9223372036854775808 ≤ a0_Hour ∧ a0_Hour ≤ 9223372036854775807)) (b0_Minute : (-9223372036854775808 ≤ a0_Minute ∧ a0_Minute ≤ 9223372036854775807)) (b0_Second : (-9223372036854775808 ≤ a0_Second ∧ a0_Second ≤ 9223372036854775807)) (b0_Week : (-9223372036854775808 ≤ a0_Week ∧ a0_Week ≤ 9223372036854775807)) (b1 : (-9223372036854775808 ≤ a1 ∧ a1 ≤ 9223372036854775807)) (w : World) :
    Calls Try.prog 5 #[.agg #[.int .i64 a0_Year, .int .i64 a0_Month, .int .i64 a0_Day, .int .i64 a0_Hour, .int .i64 a0_Minute, .int .i64 a0_Second, .int .i64 a0_Week], .int .i64 a1] w fun e w' => e = .returned (.bool true) ∧ Below w.heap.size w w' := by
  cases hy : secB a0_Year a0_Month a0_Day a0_Hour a0_Minute a0_Second a1
  · go_enter Try.func5, Try.ntmps5
    go_wp2_with (first | (go_at_call 20; with_reducible refine (secs_no a0_Year a0_Month a0_Day a0_Hour a0_Minute a0_Second a0_Week a1 _ hy).mono ?_; rintro e w1 ⟨rfl, hb1⟩; obtain ⟨hc1, hf1⟩ := bcell hb1; have hz1 : w.heap.size < w1.heap.size := (by have := hb1.size; simp at this; omega)) | (go_at_call 21; with_reducible refine (rsecs_no a0_Year a0_Month a0_Day a0_Hour a0_Minute a0_Second a0_Week a1 _ hy).mono ?_; rintro e w2 ⟨rfl, hb2⟩; obtain ⟨hc2, hf2⟩ := bcell hb2))
    go_ret
    exact ⟨rfl, bstep (bstep (bstepA (Below.refl _ _) _) hb1) hb2⟩
  · go_enter Try.func5, Try.ntmps5
    go_wp2_with (first | (go_at_call 20; with_reducible refine (secs_yes a0_Year a0_Month a0_Day a0_Hour a0_Minute a0_Second a0_Week a1 _ hy).mono ?_; rintro e w1 ⟨rfl, hb1⟩; obtain ⟨hc1, hf1⟩ := bcell hb1; have hz1 : w.heap.size < w1.heap.size := (by have := hb1.size; simp at this; omega)) | (go_at_call 21; with_reducible refine (rsecs_yes a0_Year a0_Month a0_Day a0_Hour a0_Minute a0_Second a0_Week a1 _ hy).mono ?_; rintro e w2 ⟨rfl, hb2⟩; obtain ⟨hc2, hf2⟩ := bcell hb2))
    go_ret
    exact ⟨rfl, bstep (bstep (bstepA (Below.refl _ _) _) hb1) hb2⟩

set_option maxRecDepth 100000 in
theorem lifted (os : Os) (started : os.Started) (H : Type) (enc : TypeId × Value → H) :
    ReturnsInHanded {} Try.checked os 5 .any (Rows.civilSecondsSpec.pre6 enc Try.prog Try.f5 Rows.civilSecondsRow.domain false) (Rows.civilSecondsSpec.post enc Try.prog Try.f5 false true false false) := by
  refine returnsInHanded_of_change (C := Try.checked) own started (by kernel_rfl) Try.func5
    (ChangeSpec.witness6 (enc := enc) (C := Try.checked) false ⟨#[], #[.agg #[.int .i64 0, .int .i64 0, .int .i64 0, .int .i64 0, .int .i64 0, .int .i64 0, .int .i64 0], .int .i64 0], []⟩ 8 (by kernel_rfl) (by kernel_rfl) (by kernel_rfl) (by kernel_rfl)) ?_
  intro W base args ds gs before hval0 hW hcnd _
  have hval : ∀ (j : Nat) t v, Try.f5.params[j]? = some t → args[j]? = some v → Value.okWide Try.prog W .any base t v := hval0
  have hW' := hW
  obtain ⟨p, q, hA0, hV, rfl, hfz, hnd⟩ := hW
  have hA : DataW.TrodAll enc Try.prog W 0 (fun _ => true) true Try.f5.params.toList args.toList ds p := hA0
  rw [Try.params5] at hA hval
  obtain ⟨v0, vs0, d0, ds0, p0, q0, hargs, rfl, rfl, k0, r0⟩ := trodAll_cons hA
  obtain ⟨v1, vs1, d1, ds1, p1, q1, rfl, rfl, rfl, k1, r1⟩ := trodAll_cons r0
  obtain ⟨rfl, rfl, rfl⟩ := trodAll_nil r1
  obtain rfl : args = #[v0, v1] := by cases args; simp_all
  obtain ⟨rfl, rfl⟩ := trodVars_none hV
  have lt0 : ∀ x ∈ p0, x.block < W.heap.size := by obtain ⟨m, hm⟩ := k0; exact DataW.trod_lt m _ _ _ hm
  have lt1 : ∀ x ∈ p1, x.block < W.heap.size := by obtain ⟨m, hm⟩ := k1; exact DataW.trod_lt m _ _ _ hm
  obtain ⟨a0_Year, a0_Month, a0_Day, a0_Hour, a0_Minute, a0_Second, a0_Week, rfl, b0_Year, b0_Month, b0_Day, b0_Hour, b0_Minute, b0_Second, b0_Week⟩ := open30 (hval 0 30 v0 rfl rfl)
  obtain ⟨a1, rfl, g1⟩ := Frm.val_int Try.underlying3 (hval 1 3 v1 rfl rfl)
  clear hA0 hval0
  refine (walk a0_Year a0_Month a0_Day a0_Hour a0_Minute a0_Second a0_Week a1 b0_Year b0_Month b0_Day b0_Hour b0_Minute b0_Second b0_Week (Frm.bd_i64 g1) W).mono fun e W' ⟨he, bel⟩ => ?_
  subst he
  exact ⟨_, rfl, _, _, _, [], _, [], hW', trodAll_mk1 (shut_bool Try.underlying4 _), (trodAll_cons_mk (Below.trod laidOut (by kernel_rfl) (of_decide_eq_true (by kernel_rfl)) k0 bel lt0) (trodAll_cons_mk (Below.trod laidOut (by kernel_rfl) (of_decide_eq_true (by kernel_rfl)) k1 bel lt1) trodAll_mk0)), rfl, bel.frame _, fun h => by cases h⟩

theorem over : Rows.civilSecondsRow.holds Try.pinned (OpenSpec.ofChange Rows.civilSecondsSpec) :=
  OpenClaim.holds_of_wide 5 Try.f5 rfl rfl rfl rfl rfl rfl rfl ⟨rfl, rfl, rfl, rfl, rfl⟩ rfl rfl rfl rfl rfl (by kernel_rfl) Try.func5 (by kernel_rfl)
    (of_decide_eq_true (by kernel_rfl)) (by unfold Func.isWrapper; first | (rw [if_pos (by decide +kernel)]; kernel_rfl) | (rw [if_neg (by decide +kernel)]; exact ⟨rfl, rfl⟩))
    (fun os started H enc _ => lifted os started H enc)

theorem proved : Rows.CivilSecondsSaid :=
  over
#print axioms proved
end Go.Proofs.Ytdoblmgilinknaa.civilSeconds
