
/- Proved: for every two paces and every list of wishes: a Stable does what the document says, wish by wish. -/
import Derived.Test.YtanlhkokghjadacRows
import Derived.WalkKit
import Derived.ProofKit
import Derived.OpenShut
import Derived.ShutString
import Derived.ChangeOld
import Derived.Below
import Derived.Test.YtanlhkokghjadacFrame
import Derived.Test.YtanlhkokghjadacFrameSl
import Derived.Test.YtanlhkokghjadacStbPlays
namespace Go.Proofs.Ytanlhkokghjadac.stablePlays
open Go.ChangeShapes Go.WideShapes Go.ChangeAt Go.RowKit
set_option linter.unusedVariables false
set_option maxRecDepth 8000

theorem own : ownKnob Try.prog.godebug = none := by kernel_rfl
theorem laidOut : laidOutB Try.prog = true := by kernel_rfl

theorem cells23 : Try.prog.cellTypes Try.prog.depth 23 = some [3, 3, 3, 3] := by kernel_rfl
theorem count23 : Try.prog.cellsOf 23 = 4 := by kernel_rfl
theorem list4of23 {cs : List Value} (h : cs.length = 4) : ∃ c0 c1 c2 c3, cs = [c0, c1, c2, c3] := by
  match cs, h with | [c0, c1, c2, c3], _ => exact ⟨c0, c1, c2, c3, rfl⟩
theorem open23 {W : World} {r : Reach} {base : Nat} {v : Value} (h : Value.okWide Try.prog W r base 23 v) :
    ∃ (f0 : Int) (f1 : Int) (f2 : Int) (f3 : Int), v = .agg #[.int .i64 f0, .int .i64 f1, .int .i64 f2, .int .i64 f3] ∧ (-9223372036854775808 ≤ f0 ∧ f0 ≤ 9223372036854775807) ∧ (-9223372036854775808 ≤ f1 ∧ f1 ≤ 9223372036854775807) ∧ (-9223372036854775808 ≤ f2 ∧ f2 ≤ 9223372036854775807) ∧ (-9223372036854775808 ≤ f3 ∧ f3 ≤ 9223372036854775807) := by
  obtain ⟨cs, rfl, hn, hc⟩ := Frm.agg_cells Try.underlying23 cells23 (by rw [count23]; rfl) h
  obtain ⟨c0, c1, c2, c3, rfl⟩ := list4of23 hn
  obtain ⟨f0, rfl, g0⟩ := Frm.cell_int Try.underlying3 (hc 0 _ _ rfl rfl)
  obtain ⟨f1, rfl, g1⟩ := Frm.cell_int Try.underlying3 (hc 1 _ _ rfl rfl)
  obtain ⟨f2, rfl, g2⟩ := Frm.cell_int Try.underlying3 (hc 2 _ _ rfl rfl)
  obtain ⟨f3, rfl, g3⟩ := Frm.cell_int Try.underlying3 (hc 3 _ _ rfl rfl)
  exact ⟨f0, f1, f2, f3, rfl, Frm.bd_i64 g0, Frm.bd_i64 g1, Frm.bd_i64 g2, Frm.bd_i64 g3⟩

theorem count30 : Try.prog.cellsOf 30 = 3 := by kernel_rfl
theorem count3w : Try.prog.cellsOf 3 = 1 := by kernel_rfl
open Stb

theorem walk (w : World) (a0_Window : Int) (a0_Pods : Int) (a0_Percent : Int) (a0_Period : Int) (a1_Window : Int) (a1_Pods : Int) (a1_Percent : Int) (a1_Period : Int) (a2 : Option Addr) (a2_len a2_cap : Nat) (a2_X : Nat → Nat → Int) (b0_Window : (-9223372036854775808 ≤ a0_Window ∧ a0_Window ≤ 9223372036854775807)) (b0_Pods : (-9223372036854775808 ≤ a0_Pods ∧ a0_Pods ≤ 9223372036854775807)) (b0_Percent : (-9223372036854775808 ≤ a0_Percent ∧ a0_Percent ≤ 9223372036854775807)) (b0_Period : (-9223372036854775808 ≤ a0_Period ∧ a0_Period ≤ 9223372036854775807)) (b1_Window : (-9223372036854775808 ≤ a1_Window ∧ a1_Window ≤ 9223372036854775807)) (b1_Pods : (-9223372036854775808 ≤ a1_Pods ∧ a1_Pods ≤ 9223372036854775807)) (b1_Percent : (-9223372036854775808 ≤ a1_Percent ∧ a1_Percent ≤ 9223372036854775807)) (b1_Period : (-9223372036854775808 ≤ a1_Period ∧ a1_Period ≤ 9223372036854775807)) (b2_le : a2_len ≤ a2_cap) (b2_max : a2_cap ≤ maxLen) (b2 : Frm.RowsIn w a2 a2_len 3 a2_X) :
    Calls Try.prog 3 #[.agg #[.int .i64 a0_Window, .int .i64 a0_Pods, .int .i64 a0_Percent, .int .i64 a0_Period], .agg #[.int .i64 a1_Window, .int .i64 a1_Pods, .int .i64 a1_Percent, .int .i64 a1_Period], .slice a2 a2_len a2_cap] w fun e w' => e = .returned (.bool true) ∧ Below w.heap.size w w' := by
  by_cases h3 : a2_len ≤ 100
  · exact plays_law w ⟨a0_Window, a0_Pods, a0_Percent, a0_Period⟩ ⟨a1_Window, a1_Pods, a1_Percent, a1_Period⟩ a2 a2_len a2_cap a2_X h3 b2
  · exact plays_long w ⟨a0_Window, a0_Pods, a0_Percent, a0_Period⟩ ⟨a1_Window, a1_Pods, a1_Percent, a1_Period⟩ a2 a2_len a2_cap (by omega)

set_option maxRecDepth 100000 in
theorem lifted (os : Os) (started : os.Started) (H : Type) (enc : TypeId × Value → H) :
    ReturnsInHanded {} Try.checked os 3 .any (Rows.stablePlaysSpec.pre6 enc Try.prog Try.f3 Rows.stablePlaysRow.domain false) (Rows.stablePlaysSpec.post enc Try.prog Try.f3 false true false false) := by
  refine returnsInHanded_of_change (C := Try.checked) own started (by kernel_rfl) Try.func3
    (ChangeSpec.witness6 (enc := enc) (C := Try.checked) false ⟨#[], #[.agg #[.int .i64 0, .int .i64 0, .int .i64 0, .int .i64 0], .agg #[.int .i64 0, .int .i64 0, .int .i64 0, .int .i64 0], .slice none 0 0], []⟩ 8 (by kernel_rfl) (by kernel_rfl) (by kernel_rfl) (by kernel_rfl)) ?_
  intro W base args ds gs before hval0 hW hcnd _
  have hval : ∀ (j : Nat) t v, Try.f3.params[j]? = some t → args[j]? = some v → Value.okWide Try.prog W .any base t v := hval0
  have hW' := hW
  obtain ⟨p, q, hA0, hV, rfl, hfz, hnd⟩ := hW
  have hA : DataW.TrodAll enc Try.prog W 0 (fun _ => true) true Try.f3.params.toList args.toList ds p := hA0
  rw [Try.params3] at hA hval
  obtain ⟨v0, vs0, d0, ds0, p0, q0, hargs, rfl, rfl, k0, r0⟩ := trodAll_cons hA
  obtain ⟨v1, vs1, d1, ds1, p1, q1, rfl, rfl, rfl, k1, r1⟩ := trodAll_cons r0
  obtain ⟨v2, vs2, d2, ds2, p2, q2, rfl, rfl, rfl, k2, r2⟩ := trodAll_cons r1
  obtain ⟨rfl, rfl, rfl⟩ := trodAll_nil r2
  obtain rfl : args = #[v0, v1, v2] := by cases args; simp_all
  obtain ⟨rfl, rfl⟩ := trodVars_none hV
  have lt0 : ∀ x ∈ p0, x.block < W.heap.size := by obtain ⟨m, hm⟩ := k0; exact DataW.trod_lt m _ _ _ hm
  have lt1 : ∀ x ∈ p1, x.block < W.heap.size := by obtain ⟨m, hm⟩ := k1; exact DataW.trod_lt m _ _ _ hm
  have lt2 : ∀ x ∈ p2, x.block < W.heap.size := by obtain ⟨m, hm⟩ := k2; exact DataW.trod_lt m _ _ _ hm
  obtain ⟨a0_Window, a0_Pods, a0_Percent, a0_Period, rfl, b0_Window, b0_Pods, b0_Percent, b0_Period⟩ := open23 (hval 0 23 v0 rfl rfl)
  obtain ⟨a1_Window, a1_Pods, a1_Percent, a1_Period, rfl, b1_Window, b1_Pods, b1_Percent, b1_Period⟩ := open23 (hval 1 23 v1 rfl rfl)
  obtain ⟨a2, a2_len, a2_cap, a2_X, rfl, b2_le, b2_max, b2⟩ := Frm.aggs_open Try.underlying24 Try.underlying30 (fun j f hj => by match j, hj with | 0, hj => simp at hj; subst hj; exact ⟨Try.underlying3, rfl, count3w⟩ | 1, hj => simp at hj; subst hj; exact ⟨Try.underlying3, rfl, count3w⟩ | 2, hj => simp at hj; subst hj; exact ⟨Try.underlying3, rfl, count3w⟩ | j + 3, hj => simp at hj) count30 (by decide) (Go.WideShapes.okWide_slice Try.underlying24 (hval 2 24 v2 rfl rfl)) k2
  clear hA0 hval0
  refine (walk W a0_Window a0_Pods a0_Percent a0_Period a1_Window a1_Pods a1_Percent a1_Period a2 a2_len a2_cap a2_X b0_Window b0_Pods b0_Percent b0_Period b1_Window b1_Pods b1_Percent b1_Period b2_le b2_max b2).mono fun e W' ⟨he, bel⟩ => ?_
  subst he
  exact ⟨_, rfl, _, _, _, [], _, [], hW', trodAll_mk1 (shut_bool Try.underlying4 _), (trodAll_cons_mk (Below.trod laidOut (by kernel_rfl) (of_decide_eq_true (by kernel_rfl)) k0 bel lt0) (trodAll_cons_mk (Below.trod laidOut (by kernel_rfl) (of_decide_eq_true (by kernel_rfl)) k1 bel lt1) (trodAll_cons_mk (Below.trod laidOut (by kernel_rfl) (of_decide_eq_true (by kernel_rfl)) k2 bel lt2) trodAll_mk0))), rfl, bel.frame _, fun h => by cases h⟩

theorem over : Rows.stablePlaysRow.holds Try.pinned (OpenSpec.ofChange Rows.stablePlaysSpec) :=
  OpenClaim.holds_of_wide 3 Try.f3 rfl rfl rfl rfl rfl rfl rfl ⟨rfl, rfl, rfl, rfl, rfl⟩ rfl rfl rfl rfl rfl (by kernel_rfl) Try.func3 (by kernel_rfl)
    (of_decide_eq_true (by kernel_rfl)) (by unfold Func.isWrapper; first | (rw [if_pos (by decide +kernel)]; kernel_rfl) | (rw [if_neg (by decide +kernel)]; exact ⟨rfl, rfl⟩))
    (fun os started H enc _ => lifted os started H enc)

theorem proved : Rows.StablePlaysSaid :=
  over
#print axioms proved
end Go.Proofs.Ytanlhkokghjadac.stablePlays
