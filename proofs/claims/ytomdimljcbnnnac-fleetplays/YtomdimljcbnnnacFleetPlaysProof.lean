
/- Proved: for every number of things and every list of orders: a fleet does what the document says, order by order. -/
import Derived.Test.YtomdimljcbnnnacRows
import Derived.WalkKit
import Derived.ProofKit
import Derived.OpenShut
import Derived.ShutString
import Derived.ChangeOld
import Derived.Below
import Derived.Test.YtomdimljcbnnnacFrame
import Derived.Test.YtomdimljcbnnnacFrameSl
import Derived.Test.YtomdimljcbnnnacFltPlays
namespace Go.Proofs.Ytomdimljcbnnnac.fleetPlays
open Go.ChangeShapes Go.WideShapes Go.ChangeAt Go.RowKit
set_option linter.unusedVariables false
set_option maxRecDepth 8000

theorem own : ownKnob Try.prog.godebug = none := by kernel_rfl
theorem laidOut : laidOutB Try.prog = true := by kernel_rfl

theorem count43 : Try.prog.cellsOf 43 = 2 := by kernel_rfl
theorem count3w : Try.prog.cellsOf 3 = 1 := by kernel_rfl
open Flt

theorem walk (w : World) (a0 : Int) (a1 : Option Addr) (a1_len a1_cap : Nat) (a1_X : Nat → Nat → Int) (b0 : (-9223372036854775808 ≤ a0 ∧ a0 ≤ 9223372036854775807)) (b1_le : a1_len ≤ a1_cap) (b1_max : a1_cap ≤ maxLen) (b1 : Frm.RowsIn w a1 a1_len 2 a1_X) :
    Calls Try.prog 4 #[.int .i64 a0, .slice a1 a1_len a1_cap] w fun e w' => e = .returned (.bool true) ∧ Below w.heap.size w w' := by
  by_cases h3 : a1_len ≤ 150
  · exact plays_law w a0 a1 a1_len a1_cap a1_X h3 b1
  · exact plays_long w a0 a1 a1_len a1_cap (by omega)

set_option maxRecDepth 100000 in
theorem lifted (os : Os) (started : os.Started) (H : Type) (enc : TypeId × Value → H) :
    ReturnsInHanded {} Try.checked os 4 .any (Rows.fleetPlaysSpec.pre6 enc Try.prog Try.f4 Rows.fleetPlaysRow.domain false) (Rows.fleetPlaysSpec.post enc Try.prog Try.f4 false true false false) := by
  refine returnsInHanded_of_change (C := Try.checked) own started (by kernel_rfl) Try.func4
    (ChangeSpec.witness6 (enc := enc) (C := Try.checked) false ⟨#[], #[.int .i64 0, .slice none 0 0], []⟩ 8 (by kernel_rfl) (by kernel_rfl) (by kernel_rfl) (by kernel_rfl)) ?_
  intro W base args ds gs before hval0 hW hcnd _
  have hval : ∀ (j : Nat) t v, Try.f4.params[j]? = some t → args[j]? = some v → Value.okWide Try.prog W .any base t v := hval0
  have hW' := hW
  obtain ⟨p, q, hA0, hV, rfl, hfz, hnd⟩ := hW
  have hA : DataW.TrodAll enc Try.prog W 0 (fun _ => true) true Try.f4.params.toList args.toList ds p := hA0
  rw [Try.params4] at hA hval
  obtain ⟨v0, vs0, d0, ds0, p0, q0, hargs, rfl, rfl, k0, r0⟩ := trodAll_cons hA
  obtain ⟨v1, vs1, d1, ds1, p1, q1, rfl, rfl, rfl, k1, r1⟩ := trodAll_cons r0
  obtain ⟨rfl, rfl, rfl⟩ := trodAll_nil r1
  obtain rfl : args = #[v0, v1] := by cases args; simp_all
  obtain ⟨rfl, rfl⟩ := trodVars_none hV
  have lt0 : ∀ x ∈ p0, x.block < W.heap.size := by obtain ⟨m, hm⟩ := k0; exact DataW.trod_lt m _ _ _ hm
  have lt1 : ∀ x ∈ p1, x.block < W.heap.size := by obtain ⟨m, hm⟩ := k1; exact DataW.trod_lt m _ _ _ hm
  obtain ⟨a0, rfl, g0⟩ := Frm.val_int Try.underlying3 (hval 0 3 v0 rfl rfl)
  obtain ⟨a1, a1_len, a1_cap, a1_X, rfl, b1_le, b1_max, b1⟩ := Frm.aggs_open Try.underlying35 Try.underlying43 (fun j f hj => by match j, hj with | 0, hj => simp at hj; subst hj; exact ⟨Try.underlying3, rfl, count3w⟩ | 1, hj => simp at hj; subst hj; exact ⟨Try.underlying3, rfl, count3w⟩ | j + 2, hj => simp at hj) count43 (by decide) (Go.WideShapes.okWide_slice Try.underlying35 (hval 1 35 v1 rfl rfl)) k1
  clear hA0 hval0
  refine (walk W a0 a1 a1_len a1_cap a1_X (Frm.bd_i64 g0) b1_le b1_max b1).mono fun e W' ⟨he, bel⟩ => ?_
  subst he
  exact ⟨_, rfl, _, _, _, [], _, [], hW', trodAll_mk1 (shut_bool Try.underlying4 _), (trodAll_cons_mk (Below.trod laidOut (by kernel_rfl) (of_decide_eq_true (by kernel_rfl)) k0 bel lt0) (trodAll_cons_mk (Below.trod laidOut (by kernel_rfl) (of_decide_eq_true (by kernel_rfl)) k1 bel lt1) trodAll_mk0)), rfl, bel.frame _, fun h => by cases h⟩

theorem over : Rows.fleetPlaysRow.holds Try.pinned (OpenSpec.ofChange Rows.fleetPlaysSpec) :=
  OpenClaim.holds_of_wide 4 Try.f4 rfl rfl rfl rfl rfl rfl rfl ⟨rfl, rfl, rfl, rfl, rfl⟩ rfl rfl rfl rfl rfl (by kernel_rfl) Try.func4 (by kernel_rfl)
    (of_decide_eq_true (by kernel_rfl)) (by unfold Func.isWrapper; first | (rw [if_pos (by decide +kernel)]; kernel_rfl) | (rw [if_neg (by decide +kernel)]; exact ⟨rfl, rfl⟩))
    (fun os started H enc _ => lifted os started H enc)

theorem proved : Rows.FleetPlaysSaid :=
  over
#print axioms proved
end Go.Proofs.Ytomdimljcbnnnac.fleetPlays
