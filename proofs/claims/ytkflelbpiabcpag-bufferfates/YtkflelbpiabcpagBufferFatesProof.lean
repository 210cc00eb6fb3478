
/- Proved: for every list of turns: a request has one end; who came later of a source isn't run ahead of who came first; no two of a source run. -/
import Derived.Test.YtkflelbpiabcpagRows
import Derived.WalkKit
import Derived.ProofKit
import Derived.OpenShut
import Derived.ShutString
import Derived.ChangeOld
import Derived.Below
import Derived.Test.YtkflelbpiabcpagFrame
import Derived.Test.YtkflelbpiabcpagFrameSl
import Derived.Test.YtkflelbpiabcpagBufFateL
namespace Go.Proofs.Ytkflelbpiabcpag.bufferFates
open Go.ChangeShapes Go.WideShapes Go.ChangeAt Go.RowKit
set_option linter.unusedVariables false
set_option maxRecDepth 8000

theorem own : ownKnob Try.prog.godebug = none := by kernel_rfl
theorem laidOut : laidOutB Try.prog = true := by kernel_rfl

theorem count61 : Try.prog.cellsOf 61 = 4 := by kernel_rfl
theorem count3w : Try.prog.cellsOf 3 = 1 := by kernel_rfl
open Buf

theorem walk (w : World) (a0 : Option Addr) (a0_len a0_cap : Nat) (a0_X : Nat → Nat → Int) (b0_le : a0_len ≤ a0_cap) (b0_max : a0_cap ≤ maxLen) (b0 : Frm.RowsIn w a0 a0_len 4 a0_X) :
    Calls Try.prog 8 #[.slice a0 a0_len a0_cap] w fun e w' => e = .returned (.bool true) ∧ Below w.heap.size w w' := by
  by_cases h3 : a0_len ≤ 150
  · exact fates_law w a0 a0_len a0_cap a0_X h3 b0
  · exact fates_long w a0 a0_len a0_cap (by omega)

set_option maxRecDepth 100000 in
theorem lifted (os : Os) (started : os.Started) (H : Type) (enc : TypeId × Value → H) :
    ReturnsInHanded {} Try.checked os 8 .any (Rows.bufferFatesSpec.pre6 enc Try.prog Try.f8 Rows.bufferFatesRow.domain false) (Rows.bufferFatesSpec.post enc Try.prog Try.f8 false true false false) := by
  refine returnsInHanded_of_change (C := Try.checked) own started (by kernel_rfl) Try.func8
    (ChangeSpec.witness6 (enc := enc) (C := Try.checked) false ⟨#[], #[.slice none 0 0], []⟩ 8 (by kernel_rfl) (by kernel_rfl) (by kernel_rfl) (by kernel_rfl)) ?_
  intro W base args ds gs before hval0 hW hcnd _
  have hval : ∀ (j : Nat) t v, Try.f8.params[j]? = some t → args[j]? = some v → Value.okWide Try.prog W .any base t v := hval0
  have hW' := hW
  obtain ⟨p, q, hA0, hV, rfl, hfz, hnd⟩ := hW
  have hA : DataW.TrodAll enc Try.prog W 0 (fun _ => true) true Try.f8.params.toList args.toList ds p := hA0
  rw [Try.params8] at hA hval
  obtain ⟨v0, vs0, d0, ds0, p0, q0, hargs, rfl, rfl, k0, r0⟩ := trodAll_cons hA
  obtain ⟨rfl, rfl, rfl⟩ := trodAll_nil r0
  obtain rfl : args = #[v0] := by cases args; simp_all
  obtain ⟨rfl, rfl⟩ := trodVars_none hV
  have lt0 : ∀ x ∈ p0, x.block < W.heap.size := by obtain ⟨m, hm⟩ := k0; exact DataW.trod_lt m _ _ _ hm
  obtain ⟨a0, a0_len, a0_cap, a0_X, rfl, b0_le, b0_max, b0⟩ := Frm.aggs_open Try.underlying56 Try.underlying61 (fun j f hj => by match j, hj with | 0, hj => simp at hj; subst hj; exact ⟨Try.underlying3, rfl, count3w⟩ | 1, hj => simp at hj; subst hj; exact ⟨Try.underlying3, rfl, count3w⟩ | 2, hj => simp at hj; subst hj; exact ⟨Try.underlying3, rfl, count3w⟩ | 3, hj => simp at hj; subst hj; exact ⟨Try.underlying3, rfl, count3w⟩ | j + 4, hj => simp at hj) count61 (by decide) (Go.WideShapes.okWide_slice Try.underlying56 (hval 0 56 v0 rfl rfl)) k0
  clear hA0 hval0
  refine (walk W a0 a0_len a0_cap a0_X b0_le b0_max b0).mono fun e W' ⟨he, bel⟩ => ?_
  subst he
  exact ⟨_, rfl, _, _, _, [], _, [], hW', trodAll_mk1 (shut_bool Try.underlying4 _), (trodAll_cons_mk (Below.trod laidOut (by kernel_rfl) (of_decide_eq_true (by kernel_rfl)) k0 bel lt0) trodAll_mk0), rfl, bel.frame _, fun h => by cases h⟩

theorem over : Rows.bufferFatesRow.holds Try.pinned (OpenSpec.ofChange Rows.bufferFatesSpec) :=
  OpenClaim.holds_of_wide 8 Try.f8 rfl rfl rfl rfl rfl rfl rfl ⟨rfl, rfl, rfl, rfl, rfl⟩ rfl rfl rfl rfl rfl (by kernel_rfl) Try.func8 (by kernel_rfl)
    (of_decide_eq_true (by kernel_rfl)) (by unfold Func.isWrapper; first | (rw [if_pos (by decide +kernel)]; kernel_rfl) | (rw [if_neg (by decide +kernel)]; exact ⟨rfl, rfl⟩))
    (fun os started H enc _ => lifted os started H enc)

theorem proved : Rows.BufferFatesSaid :=
  over
#print axioms proved
end Go.Proofs.Ytkflelbpiabcpag.bufferFates
