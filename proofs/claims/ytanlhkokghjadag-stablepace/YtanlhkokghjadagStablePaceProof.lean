
/- Proved: for every pace, every list of waits and of wants: with a pace of so many pods a period, in no period more are made than that, or there are not more than that. -/
import Derived.Test.YtanlhkokghjadagRows
import Derived.WalkKit
import Derived.ProofKit
import Derived.OpenShut
import Derived.ShutString
import Derived.ChangeOld
import Derived.Below
import Derived.Test.YtanlhkokghjadagFrame
import Derived.Test.YtanlhkokghjadagFrameSl
import Derived.Test.YtanlhkokghjadagStbPace
namespace Go.Proofs.Ytanlhkokghjadag.stablePace
open Go.ChangeShapes Go.WideShapes Go.ChangeAt Go.RowKit
set_option linter.unusedVariables false
set_option maxRecDepth 8000

theorem own : ownKnob Try.prog.godebug = none := by kernel_rfl
theorem laidOut : laidOutB Try.prog = true := by kernel_rfl

theorem count3 : Try.prog.cellsOf 3 = 1 := by kernel_rfl
open Stb

theorem walk (w : World) (a0 : Int) (a1 : Int) (a2 : Option Addr) (a2_len a2_cap : Nat) (a2_X : Nat → Nat → Int) (a3 : Option Addr) (a3_len a3_cap : Nat) (a3_X : Nat → Nat → Int) (b0 : (-9223372036854775808 ≤ a0 ∧ a0 ≤ 9223372036854775807)) (b1 : (-9223372036854775808 ≤ a1 ∧ a1 ≤ 9223372036854775807)) (b2_le : a2_len ≤ a2_cap) (b2_max : a2_cap ≤ maxLen) (b2 : Frm.RowsIn w a2 a2_len 1 a2_X) (b3_le : a3_len ≤ a3_cap) (b3_max : a3_cap ≤ maxLen) (b3 : Frm.RowsIn w a3 a3_len 1 a3_X) :
    Calls Try.prog 5 #[.int .i64 a0, .int .i64 a1, .slice a2 a2_len a2_cap, .slice a3 a3_len a3_cap] w fun e w' => e = .returned (.bool true) ∧ Below w.heap.size w w' := by
  exact pace_law w a0 a1 a2 a3 a2_len a2_cap a3_len a3_cap a2_X a3_X b3_le (Nat.le_trans b2_le b2_max) b2 b3

set_option maxRecDepth 100000 in
theorem lifted (os : Os) (started : os.Started) (H : Type) (enc : TypeId × Value → H) :
    ReturnsInHanded {} Try.checked os 5 .any (Rows.stablePaceSpec.pre6 enc Try.prog Try.f5 Rows.stablePaceRow.domain false) (Rows.stablePaceSpec.post enc Try.prog Try.f5 false true false false) := by
  refine returnsInHanded_of_change (C := Try.checked) own started (by kernel_rfl) Try.func5
    (ChangeSpec.witness6 (enc := enc) (C := Try.checked) false ⟨#[], #[.int .i64 0, .int .i64 0, .slice none 0 0, .slice none 0 0], []⟩ 8 (by kernel_rfl) (by kernel_rfl) (by kernel_rfl) (by kernel_rfl)) ?_
  intro W base args ds gs before hval0 hW hcnd _
  have hval : ∀ (j : Nat) t v, Try.f5.params[j]? = some t → args[j]? = some v → Value.okWide Try.prog W .any base t v := hval0
  have hW' := hW
  obtain ⟨p, q, hA0, hV, rfl, hfz, hnd⟩ := hW
  have hA : DataW.TrodAll enc Try.prog W 0 (fun _ => true) true Try.f5.params.toList args.toList ds p := hA0
  rw [Try.params5] at hA hval
  obtain ⟨v0, vs0, d0, ds0, p0, q0, hargs, rfl, rfl, k0, r0⟩ := trodAll_cons hA
  obtain ⟨v1, vs1, d1, ds1, p1, q1, rfl, rfl, rfl, k1, r1⟩ := trodAll_cons r0
  obtain ⟨v2, vs2, d2, ds2, p2, q2, rfl, rfl, rfl, k2, r2⟩ := trodAll_cons r1
  obtain ⟨v3, vs3, d3, ds3, p3, q3, rfl, rfl, rfl, k3, r3⟩ := trodAll_cons r2
  obtain ⟨rfl, rfl, rfl⟩ := trodAll_nil r3
  obtain rfl : args = #[v0, v1, v2, v3] := by cases args; simp_all
  obtain ⟨rfl, rfl⟩ := trodVars_none hV
  have lt0 : ∀ x ∈ p0, x.block < W.heap.size := by obtain ⟨m, hm⟩ := k0; exact DataW.trod_lt m _ _ _ hm
  have lt1 : ∀ x ∈ p1, x.block < W.heap.size := by obtain ⟨m, hm⟩ := k1; exact DataW.trod_lt m _ _ _ hm
  have lt2 : ∀ x ∈ p2, x.block < W.heap.size := by obtain ⟨m, hm⟩ := k2; exact DataW.trod_lt m _ _ _ hm
  have lt3 : ∀ x ∈ p3, x.block < W.heap.size := by obtain ⟨m, hm⟩ := k3; exact DataW.trod_lt m _ _ _ hm
  obtain ⟨a0, rfl, g0⟩ := Frm.val_int Try.underlying3 (hval 0 3 v0 rfl rfl)
  obtain ⟨a1, rfl, g1⟩ := Frm.val_int Try.underlying3 (hval 1 3 v1 rfl rfl)
  obtain ⟨a2, a2_len, a2_cap, a2_X, rfl, b2_le, b2_max, b2⟩ := Frm.ints_open Try.underlying36 Try.underlying3 count3 (Go.WideShapes.okWide_slice Try.underlying36 (hval 2 36 v2 rfl rfl)) k2
  obtain ⟨a3, a3_len, a3_cap, a3_X, rfl, b3_le, b3_max, b3⟩ := Frm.ints_open Try.underlying36 Try.underlying3 count3 (Go.WideShapes.okWide_slice Try.underlying36 (hval 3 36 v3 rfl rfl)) k3
  clear hA0 hval0
  refine (walk W a0 a1 a2 a2_len a2_cap a2_X a3 a3_len a3_cap a3_X (Frm.bd_i64 g0) (Frm.bd_i64 g1) b2_le b2_max b2 b3_le b3_max b3).mono fun e W' ⟨he, bel⟩ => ?_
  subst he
  exact ⟨_, rfl, _, _, _, [], _, [], hW', trodAll_mk1 (shut_bool Try.underlying4 _), (trodAll_cons_mk (Below.trod laidOut (by kernel_rfl) (of_decide_eq_true (by kernel_rfl)) k0 bel lt0) (trodAll_cons_mk (Below.trod laidOut (by kernel_rfl) (of_decide_eq_true (by kernel_rfl)) k1 bel lt1) (trodAll_cons_mk (Below.trod laidOut (by kernel_rfl) (of_decide_eq_true (by kernel_rfl)) k2 bel lt2) (trodAll_cons_mk (Below.trod laidOut (by kernel_rfl) (of_decide_eq_true (by kernel_rfl)) k3 bel lt3) trodAll_mk0)))), rfl, bel.frame _, fun h => by cases h⟩

theorem over : Rows.stablePaceRow.holds Try.pinned (OpenSpec.ofChange Rows.stablePaceSpec) :=
  OpenClaim.holds_of_wide 5 Try.f5 rfl rfl rfl rfl rfl rfl rfl ⟨rfl, rfl, rfl, rfl, rfl⟩ rfl rfl rfl rfl rfl (by kernel_rfl) Try.func5 (by kernel_rfl)
    (of_decide_eq_true (by kernel_rfl)) (by unfold Func.isWrapper; first | (rw [if_pos (by decide +kernel)]; kernel_rfl) | (rw [if_neg (by decide +kernel)]; exact ⟨rfl, rfl⟩))
    (fun os started H enc _ => lifted os started H enc)

theorem proved : Rows.StablePaceSaid :=
  over
#print axioms proved
end Go.Proofs.Ytanlhkokghjadag.stablePace
