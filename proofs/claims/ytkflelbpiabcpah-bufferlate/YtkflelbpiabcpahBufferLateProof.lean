
/- Proved: for every list of turns and every time: nothing is late ahead of its time, and all is at it. -/
import Derived.Test.YtkflelbpiabcpahRows
import Derived.WalkKit
import Derived.ProofKit
import Derived.OpenShut
import Derived.ShutString
import Derived.ChangeOld
import Derived.Below
import Derived.Test.YtkflelbpiabcpahFrame
import Derived.Test.YtkflelbpiabcpahFrameSl
import Derived.Test.YtkflelbpiabcpahBufLate
namespace Go.Proofs.Ytkflelbpiabcpah.bufferLate
open Go.ChangeShapes Go.WideShapes Go.ChangeAt Go.RowKit
set_option linter.unusedVariables false
set_option maxRecDepth 8000

theorem own : ownKnob Try.prog.godebug = none := by kernel_rfl
theorem laidOut : laidOutB Try.prog = true := by kernel_rfl

theorem count27 : Try.prog.cellsOf 27 = 4 := by kernel_rfl
theorem count3w : Try.prog.cellsOf 3 = 1 := by kernel_rfl
open Buf

theorem walk (w : World) (a0 : Option Addr) (a0_len a0_cap : Nat) (a0_X : Nat → Nat → Int) (a1 : Int) (b0_le : a0_len ≤ a0_cap) (b0_max : a0_cap ≤ maxLen) (b0 : Frm.RowsIn w a0 a0_len 4 a0_X) (b1 : (-9223372036854775808 ≤ a1 ∧ a1 ≤ 9223372036854775807)) :
    Calls Try.prog 3 #[.slice a0 a0_len a0_cap, .int .i64 a1] w fun e w' => e = .returned (.bool true) ∧ Below w.heap.size w w' := by
  by_cases h3 : a0_len ≤ 150
  · exact late_law w a0 a0_len a0_cap a0_X a1 h3 b0
  · exact late_long w a0 a0_len a0_cap a1 (by omega)

set_option maxRecDepth 100000 in
theorem lifted (os : Os) (started : os.Started) (H : Type) (enc : TypeId × Value → H) :
    ReturnsInHanded {} Try.checked os 3 .any (Rows.bufferLateSpec.pre6 enc Try.prog Try.f3 Rows.bufferLateRow.domain false) (Rows.bufferLateSpec.post enc Try.prog Try.f3 false true false false) := by
  refine returnsInHanded_of_change (C := Try.checked) own started (by kernel_rfl) Try.func3
    (ChangeSpec.witness6 (enc := enc) (C := Try.checked) false ⟨#[], #[.slice none 0 0, .int .i64 0], []⟩ 8 (by kernel_rfl) (by kernel_rfl) (by kernel_rfl) (by kernel_rfl)) ?_
  intro W base args ds gs before hval0 hW hcnd _
  have hval : ∀ (j : Nat) t v, Try.f3.params[j]? = some t → args[j]? = some v → Value.okWide Try.prog W .any base t v := hval0
  have hW' := hW
  obtain ⟨p, q, hA0, hV, rfl, hfz, hnd⟩ := hW
  have hA : DataW.TrodAll enc Try.prog W 0 (fun _ => true) true Try.f3.params.toList args.toList ds p := hA0
  rw [Try.params3] at hA hval
  obtain ⟨v0, vs0, d0, ds0, p0, q0, hargs, rfl, rfl, k0, r0⟩ := trodAll_cons hA
  obtain ⟨v1, vs1, d1, ds1, p1, q1, rfl, rfl, rfl, k1, r1⟩ := trodAll_cons r0
  obtain ⟨rfl, rfl, rfl⟩ := trodAll_nil r1
  obtain rfl : args = #[v0, v1] := by cases args; simp_all
  obtain ⟨rfl, rfl⟩ := trodVars_none hV
  have lt0 : ∀ x ∈ p0, x.block < W.heap.size := by obtain ⟨m, hm⟩ := k0; exact DataW.trod_lt m _ _ _ hm
  have lt1 : ∀ x ∈ p1, x.block < W.heap.size := by obtain ⟨m, hm⟩ := k1; exact DataW.trod_lt m _ _ _ hm
  obtain ⟨a0, a0_len, a0_cap, a0_X, rfl, b0_le, b0_max, b0⟩ := Frm.aggs_open Try.underlying22 Try.underlying27 (fun j f hj => by match j, hj with | 0, hj => simp at hj; subst hj; exact ⟨Try.underlying3, rfl, count3w⟩ | 1, hj => simp at hj; subst hj; exact ⟨Try.underlying3, rfl, count3w⟩ | 2, hj => simp at hj; subst hj; exact ⟨Try.underlying3, rfl, count3w⟩ | 3, hj => simp at hj; subst hj; exact ⟨Try.underlying3, rfl, count3w⟩ | j + 4, hj => simp at hj) count27 (by decide) (Go.WideShapes.okWide_slice Try.underlying22 (hval 0 22 v0 rfl rfl)) k0
  obtain ⟨a1, rfl, g1⟩ := Frm.val_int Try.underlying3 (hval 1 3 v1 rfl rfl)
  clear hA0 hval0
  refine (walk W a0 a0_len a0_cap a0_X a1 b0_le b0_max b0 (Frm.bd_i64 g1)).mono fun e W' ⟨he, bel⟩ => ?_
  subst he
  exact ⟨_, rfl, _, _, _, [], _, [], hW', trodAll_mk1 (shut_bool Try.underlying4 _), (trodAll_cons_mk (Below.trod laidOut (by kernel_rfl) (of_decide_eq_true (by kernel_rfl)) k0 bel lt0) (trodAll_cons_mk (Below.trod laidOut (by kernel_rfl) (of_decide_eq_true (by kernel_rfl)) k1 bel lt1) trodAll_mk0)), rfl, bel.frame _, fun h => by cases h⟩

theorem over : Rows.bufferLateRow.holds Try.pinned (OpenSpec.ofChange Rows.bufferLateSpec) :=
  OpenClaim.holds_of_wide 3 Try.f3 rfl rfl rfl rfl rfl rfl rfl ⟨rfl, rfl, rfl, rfl, rfl⟩ rfl rfl rfl rfl rfl (by kernel_rfl) Try.func3 (by kernel_rfl)
    (of_decide_eq_true (by kernel_rfl)) (by unfold Func.isWrapper; first | (rw [if_pos (by decide +kernel)]; kernel_rfl) | (rw [if_neg (by decide +kernel)]; exact ⟨rfl, rfl⟩))
    (fun os started H enc _ => lifted os started H enc)

theorem proved : Rows.BufferLateSaid :=
  over
#print axioms proved
end Go.Proofs.Ytkflelbpiabcpah.bufferLate
