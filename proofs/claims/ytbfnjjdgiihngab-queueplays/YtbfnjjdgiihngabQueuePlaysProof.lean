/- Proved: for every list of loans: a queue does what the document says, loan by loan. -/
import Derived.Test.YtbfnjjdgiihngabRows
import Derived.WalkKit
import Derived.ProofKit
import Derived.OpenShut
import Derived.ShutString
import Derived.ChangeOld
import Derived.Below
import Derived.Test.YtbfnjjdgiihngabFrame
import Derived.Test.YtbfnjjdgiihngabFrameSl
import Derived.Test.YtbfnjjdgiihngabQueLaw
namespace Go.Proofs.Ytbfnjjdgiihngab.queuePlays
open Go.ChangeShapes Go.WideShapes Go.ChangeAt Go.RowKit
set_option linter.unusedVariables false
set_option maxRecDepth 8000

theorem own : ownKnob Try.prog.godebug = none := by kernel_rfl
theorem laidOut : laidOutB Try.prog = true := by kernel_rfl

theorem count46 : Try.prog.cellsOf 46 = 3 := by kernel_rfl
theorem count3w : Try.prog.cellsOf 3 = 1 := by kernel_rfl
open Que

theorem walk (w : World) (a0 : Option Addr) (a0_len a0_cap : Nat) (a0_X : Nat → Nat → Int) (b0_le : a0_len ≤ a0_cap) (b0_max : a0_cap ≤ maxLen) (b0 : Frm.RowsIn w a0 a0_len 3 a0_X) :
    Calls Try.prog 4 #[.slice a0 a0_len a0_cap] w fun e w' => e = .returned (.bool true) ∧ Below w.heap.size w w' := by
  by_cases h3 : a0_len ≤ 100
  · exact plays_yes w a0 a0_len a0_cap a0_X h3 b0
  · exact plays_long w a0 a0_len a0_cap (by omega)

set_option maxRecDepth 100000 in
theorem lifted (os : Os) (started : os.Started) (H : Type) (enc : TypeId × Value → H) :
    ReturnsInHanded {} Try.checked os 4 .any (Rows.queuePlaysSpec.pre6 enc Try.prog Try.f4 Rows.queuePlaysRow.domain false) (Rows.queuePlaysSpec.post enc Try.prog Try.f4 false true false false) := by
  refine returnsInHanded_of_change (C := Try.checked) own started (by kernel_rfl) Try.func4
    (ChangeSpec.witness6 (enc := enc) (C := Try.checked) false ⟨#[], #[.slice none 0 0], []⟩ 8 (by kernel_rfl) (by kernel_rfl) (by kernel_rfl) (by kernel_rfl)) ?_
  intro W base args ds gs before hval0 hW hcnd _
  have hval : ∀ (j : Nat) t v, Try.f4.params[j]? = some t → args[j]? = some v → Value.okWide Try.prog W .any base t v := hval0
  have hW' := hW
  obtain ⟨p, q, hA0, hV, rfl, hfz, hnd⟩ := hW
  have hA : DataW.TrodAll enc Try.prog W 0 (fun _ => true) true Try.f4.params.toList args.toList ds p := hA0
  rw [Try.params4] at hA hval
  obtain ⟨v0, vs0, d0, ds0, p0, q0, hargs, rfl, rfl, k0, r0⟩ := trodAll_cons hA
  obtain ⟨rfl, rfl, rfl⟩ := trodAll_nil r0
  obtain rfl : args = #[v0] := by cases args; simp_all
  obtain ⟨rfl, rfl⟩ := trodVars_none hV
  have lt0 : ∀ x ∈ p0, x.block < W.heap.size := by obtain ⟨m, hm⟩ := k0; exact DataW.trod_lt m _ _ _ hm
  obtain ⟨a0, a0_len, a0_cap, a0_X, rfl, b0_le, b0_max, b0⟩ := Frm.aggs_open Try.underlying38 Try.underlying46 (fun j f hj => by match j, hj with | 0, hj => simp at hj; subst hj; exact ⟨Try.underlying3, rfl, count3w⟩ | 1, hj => simp at hj; subst hj; exact ⟨Try.underlying3, rfl, count3w⟩ | 2, hj => simp at hj; subst hj; exact ⟨Try.underlying3, rfl, count3w⟩ | j + 3, hj => simp at hj) count46 (by decide) (Go.WideShapes.okWide_slice Try.underlying38 (hval 0 38 v0 rfl rfl)) k0
  clear hA0 hval0
  refine (walk W a0 a0_len a0_cap a0_X b0_le b0_max b0).mono fun e W' ⟨he, bel⟩ => ?_
  subst he
  exact ⟨_, rfl, _, _, _, [], _, [], hW', trodAll_mk1 (shut_bool Try.underlying4 _), (trodAll_cons_mk (Below.trod laidOut (by kernel_rfl) (of_decide_eq_true (by kernel_rfl)) k0 bel lt0) trodAll_mk0), rfl, bel.frame _, fun h => by cases h⟩

theorem over : Rows.queuePlaysRow.holds Try.pinned (OpenSpec.ofChange Rows.queuePlaysSpec) :=
  OpenClaim.holds_of_wide 4 Try.f4 rfl rfl rfl rfl rfl rfl rfl ⟨rfl, rfl, rfl, rfl, rfl⟩ rfl rfl rfl rfl rfl (by kernel_rfl) Try.func4 (by kernel_rfl)
    (of_decide_eq_true (by kernel_rfl)) (by unfold Func.isWrapper; first | (rw [if_pos (by decide +kernel)]; kernel_rfl) | (rw [if_neg (by decide +kernel)]; exact ⟨rfl, rfl⟩))
    (fun os started H enc _ => lifted os started H enc)

theorem proved : Rows.QueuePlaysSaid :=
  over
#print axioms proved
end Go.Proofs.Ytbfnjjdgiihngab.queuePlays
