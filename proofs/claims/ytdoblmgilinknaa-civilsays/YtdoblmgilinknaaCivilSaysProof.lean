/- Proved: tidelaw.CivilSays answers true for every five ints y, m, d, sec, shift (no condition): civil.Days and civil.Of answer what the document's own counting (tideref.Days, tideref.Of) answers. -/
import Derived.Test.YtdoblmgilinknaaRows
import Derived.WalkKit
import Derived.ProofKit
import Derived.OpenShut
import Derived.ShutString
import Derived.ChangeOld
import Derived.Below
import Derived.Test.YtdoblmgilinknaaFrame
import Derived.Test.YtdoblmgilinknaaRefCivil2
namespace Go.Proofs.Ytdoblmgilinknaa.civilSays
open Go.ChangeShapes Go.WideShapes Go.ChangeAt Go.RowKit
set_option linter.unusedVariables false

theorem own : ownKnob Try.prog.godebug = none := by kernel_rfl
theorem laidOut : laidOutB Try.prog = true := by kernel_rfl

open Cal Civ RCiv

set_option maxHeartbeats 2000000 in
theorem walk (a0 : Int) (a1 : Int) (a2 : Int) (a3 : Int) (a4 : Int) (b0 : (-9223372036854775808 ≤ a0 ∧ a0 ≤ 9223372036854775807)) (b1 : (-9223372036854775808 ≤ a1 ∧ a1 ≤ 9223372036854775807)) (b2 : (-9223372036854775808 ≤ a2 ∧ a2 ≤ 9223372036854775807)) (b3 : (-9223372036854775808 ≤ a3 ∧ a3 ≤ 9223372036854775807)) (b4 : (-9223372036854775808 ≤ a4 ∧ a4 ≤ 9223372036854775807)) (w : World) :
    Calls Try.prog 4 #[.int .i64 a0, .int .i64 a1, .int .i64 a2, .int .i64 a3, .int .i64 a4] w fun e w' => e = .returned (.bool true) ∧ Below w.heap.size w w' := by
  cases hv : vldB a0 a1 a2
  · by_cases ht : tmB a3 = true ∧ shB a4 = true
    · go_enter Try.func4, Try.ntmps4
      go_wp2_with (first | (go_at_call 16; with_reducible refine (days_no a0 a1 a2 _ hv).mono ?_; rintro e w' ⟨rfl, rfl⟩) | (go_at_call 17; with_reducible refine (rdays_no a0 a1 a2 _ hv).mono ?_; rintro e w1 ⟨rfl, hb1⟩; obtain ⟨hc1, hf1⟩ := bcell hb1) | (go_at_call 18; with_reducible refine (of_yes a3 a4 _ ht.1 ht.2).mono ?_; rintro e w2 ⟨rfl, hb2⟩; obtain ⟨hc2, hf2⟩ := bcell hb2) | (go_at_call 19; with_reducible refine (rof_yes a3 a4 _ ht.1 ht.2).mono ?_; rintro e w3 ⟨rfl, hb3⟩; obtain ⟨hc3, hf3⟩ := bcell hb3; have hz3 : w2.heap.size < w3.heap.size := (by have := hb3.size; simp at this; omega)))
      go_ret
      exact ⟨rfl, bstepA (bstep (bstepA (bstep hb1 hb2) _) hb3) _⟩
    · have hn : tmB a3 = false ∨ shB a4 = false := by cases h1 : tmB a3 <;> cases h2 : shB a4 <;> simp_all
      clear ht
      go_enter Try.func4, Try.ntmps4
      go_wp2_with (first | (go_at_call 16; with_reducible refine (days_no a0 a1 a2 _ hv).mono ?_; rintro e w' ⟨rfl, rfl⟩) | (go_at_call 17; with_reducible refine (rdays_no a0 a1 a2 _ hv).mono ?_; rintro e w1 ⟨rfl, hb1⟩; obtain ⟨hc1, hf1⟩ := bcell hb1) | (go_at_call 18; with_reducible refine (of_no a3 a4 _ hn).mono ?_; rintro e w2 ⟨rfl, hb2⟩; obtain ⟨hc2, hf2⟩ := bcell hb2) | (go_at_call 19; with_reducible refine (rof_no a3 a4 _ hn).mono ?_; rintro e w3 ⟨rfl, hb3⟩; obtain ⟨hc3, hf3⟩ := bcell hb3; have hz3 : w2.heap.size < w3.heap.size := (by have := hb3.size; simp at this; omega)))
      go_ret
      exact ⟨rfl, bstepA (bstep (bstepA (bstep hb1 hb2) _) hb3) _⟩
  · by_cases ht : tmB a3 = true ∧ shB a4 = true
    · go_enter Try.func4, Try.ntmps4
      go_wp2_with (first | (go_at_call 16; with_reducible refine (days_yes a0 a1 a2 _ hv).mono ?_; rintro e w' ⟨rfl, rfl⟩) | (go_at_call 17; with_reducible refine (rdays_yes a0 a1 a2 _ hv).mono ?_; rintro e w1 ⟨rfl, hb1⟩; obtain ⟨hc1, hf1⟩ := bcell hb1) | (go_at_call 18; with_reducible refine (of_yes a3 a4 _ ht.1 ht.2).mono ?_; rintro e w2 ⟨rfl, hb2⟩; obtain ⟨hc2, hf2⟩ := bcell hb2) | (go_at_call 19; with_reducible refine (rof_yes a3 a4 _ ht.1 ht.2).mono ?_; rintro e w3 ⟨rfl, hb3⟩; obtain ⟨hc3, hf3⟩ := bcell hb3; have hz3 : w2.heap.size < w3.heap.size := (by have := hb3.size; simp at this; omega)))
      go_ret
      exact ⟨rfl, bstepA (bstep (bstepA (bstep hb1 hb2) _) hb3) _⟩
    · have hn : tmB a3 = false ∨ shB a4 = false := by cases h1 : tmB a3 <;> cases h2 : shB a4 <;> simp_all
      clear ht
      go_enter Try.func4, Try.ntmps4
      go_wp2_with (first | (go_at_call 16; with_reducible refine (days_yes a0 a1 a2 _ hv).mono ?_; rintro e w' ⟨rfl, rfl⟩) | (go_at_call 17; with_reducible refine (rdays_yes a0 a1 a2 _ hv).mono ?_; rintro e w1 ⟨rfl, hb1⟩; obtain ⟨hc1, hf1⟩ := bcell hb1) | (go_at_call 18; with_reducible refine (of_no a3 a4 _ hn).mono ?_; rintro e w2 ⟨rfl, hb2⟩; obtain ⟨hc2, hf2⟩ := bcell hb2) | (go_at_call 19; with_reducible refine (rof_no a3 a4 _ hn).mono ?_; rintro e w3 ⟨rfl, hb3⟩; obtain ⟨hc3, hf3⟩ := bcell hb3; have hz3 : w2.heap.size < w3.heap.size := (by have := hb3.size; simp at this; omega)))
      go_ret
      exact ⟨rfl, bstepA (bstep (bstepA (bstep hb1 hb2) _) hb3) _⟩

set_option maxRecDepth 100000 in
theorem lifted (os : Os) (started : os.Started) (H : Type) (enc : TypeId × Value → H) :
    ReturnsInHanded {} Try.checked os 4 .any (Rows.civilSaysSpec.pre6 enc Try.prog Try.f4 Rows.civilSaysRow.domain false) (Rows.civilSaysSpec.post enc Try.prog Try.f4 false true false false) := by
  refine returnsInHanded_of_change (C := Try.checked) own started (by kernel_rfl) Try.func4
    (ChangeSpec.witness6 (enc := enc) (C := Try.checked) false ⟨#[], #[.int .i64 0, .int .i64 0, .int .i64 0, .int .i64 0, .int .i64 0], []⟩ 8 (by kernel_rfl) (by kernel_rfl) (by kernel_rfl) (by kernel_rfl)) ?_
  intro W base args ds gs before hval0 hW hcnd _
  have hval : ∀ (j : Nat) t v, Try.f4.params[j]? = some t → args[j]? = some v → Value.okWide Try.prog W .any base t v := hval0
  have hW' := hW
  obtain ⟨p, q, hA0, hV, rfl, hfz, hnd⟩ := hW
  have hA : DataW.TrodAll enc Try.prog W 0 (fun _ => true) true Try.f4.params.toList args.toList ds p := hA0
  rw [Try.params4] at hA hval
  obtain ⟨v0, vs0, d0, ds0, p0, q0, hargs, rfl, rfl, k0, r0⟩ := trodAll_cons hA
  obtain ⟨v1, vs1, d1, ds1, p1, q1, rfl, rfl, rfl, k1, r1⟩ := trodAll_cons r0
  obtain ⟨v2, vs2, d2, ds2, p2, q2, rfl, rfl, rfl, k2, r2⟩ := trodAll_cons r1
  obtain ⟨v3, vs3, d3, ds3, p3, q3, rfl, rfl, rfl, k3, r3⟩ := trodAll_cons r2
  obtain ⟨v4, vs4, d4, ds4, p4, q4, rfl, rfl, rfl, k4, r4⟩ := trodAll_cons r3
  obtain ⟨rfl, rfl, rfl⟩ := trodAll_nil r4
  obtain rfl : args = #[v0, v1, v2, v3, v4] := by cases args; simp_all
  obtain ⟨rfl, rfl⟩ := trodVars_none hV
  have lt0 : ∀ x ∈ p0, x.block < W.heap.size := by obtain ⟨m, hm⟩ := k0; exact DataW.trod_lt m _ _ _ hm
  have lt1 : ∀ x ∈ p1, x.block < W.heap.size := by obtain ⟨m, hm⟩ := k1; exact DataW.trod_lt m _ _ _ hm
  have lt2 : ∀ x ∈ p2, x.block < W.heap.size := by obtain ⟨m, hm⟩ := k2; exact DataW.trod_lt m _ _ _ hm
  have lt3 : ∀ x ∈ p3, x.block < W.heap.size := by obtain ⟨m, hm⟩ := k3; exact DataW.trod_lt m _ _ _ hm
  have lt4 : ∀ x ∈ p4, x.block < W.heap.size := by obtain ⟨m, hm⟩ := k4; exact DataW.trod_lt m _ _ _ hm
  obtain ⟨a0, rfl, g0⟩ := Frm.val_int Try.underlying3 (hval 0 3 v0 rfl rfl)
  obtain ⟨a1, rfl, g1⟩ := Frm.val_int Try.underlying3 (hval 1 3 v1 rfl rfl)
  obtain ⟨a2, rfl, g2⟩ := Frm.val_int Try.underlying3 (hval 2 3 v2 rfl rfl)
  obtain ⟨a3, rfl, g3⟩ := Frm.val_int Try.underlying3 (hval 3 3 v3 rfl rfl)
  obtain ⟨a4, rfl, g4⟩ := Frm.val_int Try.underlying3 (hval 4 3 v4 rfl rfl)
  clear hA0 hval0
  refine (walk a0 a1 a2 a3 a4 (Frm.bd_i64 g0) (Frm.bd_i64 g1) (Frm.bd_i64 g2) (Frm.bd_i64 g3) (Frm.bd_i64 g4) W).mono fun e W' ⟨he, bel⟩ => ?_
  subst he
  exact ⟨_, rfl, _, _, _, [], _, [], hW', trodAll_mk1 (shut_bool Try.underlying4 _), (trodAll_cons_mk (Below.trod laidOut (by kernel_rfl) (of_decide_eq_true (by kernel_rfl)) k0 bel lt0) (trodAll_cons_mk (Below.trod laidOut (by kernel_rfl) (of_decide_eq_true (by kernel_rfl)) k1 bel lt1) (trodAll_cons_mk (Below.trod laidOut (by kernel_rfl) (of_decide_eq_true (by kernel_rfl)) k2 bel lt2) (trodAll_cons_mk (Below.trod laidOut (by kernel_rfl) (of_decide_eq_true (by kernel_rfl)) k3 bel lt3) (trodAll_cons_mk (Below.trod laidOut (by kernel_rfl) (of_decide_eq_true (by kernel_rfl)) k4 bel lt4) trodAll_mk0))))), rfl, bel.frame _, fun h => by cases h⟩

theorem over : Rows.civilSaysRow.holds Try.pinned (OpenSpec.ofChange Rows.civilSaysSpec) :=
  OpenClaim.holds_of_wide 4 Try.f4 rfl rfl rfl rfl rfl rfl rfl ⟨rfl, rfl, rfl, rfl, rfl⟩ rfl rfl rfl rfl rfl (by kernel_rfl) Try.func4 (by kernel_rfl)
    (of_decide_eq_true (by kernel_rfl)) (by unfold Func.isWrapper; first | (rw [if_pos (by decide +kernel)]; kernel_rfl) | (rw [if_neg (by decide +kernel)]; exact ⟨rfl, rfl⟩))
    (fun os started H enc _ => lifted os started H enc)

theorem proved : Rows.CivilSaysSaid :=
  over
#print axioms proved
end Go.Proofs.Ytdoblmgilinknaa.civilSays
