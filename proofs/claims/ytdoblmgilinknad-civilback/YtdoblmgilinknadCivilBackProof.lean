/- Proved: tidekeep.CivilBack answers true for every two ints sec and shift (no condition): civil.Of tells a time as a date and time from which civil.Seconds finds it, and a day later it is the next day of the week at the same time of day; where Of answers an error, its date is the zero value. -/
import Derived.Test.YtdoblmgilinknadRows
import Derived.WalkKit
import Derived.ProofKit
import Derived.OpenShut
import Derived.ShutString
import Derived.ChangeOld
import Derived.Below
import Derived.Test.YtdoblmgilinknadFrame
import Derived.Test.YtdoblmgilinknadCivilFaces
namespace Go.Proofs.Ytdoblmgilinknad.civilBack
open Go.ChangeShapes Go.WideShapes Go.ChangeAt Go.RowKit
set_option linter.unusedVariables false

theorem own : ownKnob Try.prog.godebug = none := by kernel_rfl
theorem laidOut : laidOutB Try.prog = true := by kernel_rfl

open Cal Civ
theorem of_c1 (w : World) : Calls Try.prog 16 #[.int .i64 951782400, .int .i64 0] w fun e w' => e = .returned (.tuple #[civ 2000 2 29 0 0 0 2, .int .i64 0]) ∧ Below w.heap.size w w' := by
  refine (of_yes 951782400 0 w (by decide) (by decide)).mono ?_
  rintro e w' ⟨rfl, hb⟩
  refine ⟨?_, hb⟩
  obtain ⟨e1, e2, e3⟩ := date_is (n := 2191514) (y := 2000) (m := 2) (d := 29) (by decide) (by decide)
  have e0 : (951782400 + (188395027200 + 0 * 60) : Int) = 189346809600 := by decide
  have e4 : (189346809600 : Int) / 86400 = 2191514 := by decide
  unfold ofv sc
  rw [e0, e4, e1, e2, e3]
  rfl
theorem back_at (t shift : Int) (ht : tmB t = true) (hs : shB shift = true) :
    secB (yr (sc t shift / 86400)) (mo (sc t shift / 86400)) (dy (sc t shift / 86400)) (sc t shift % 86400 / 3600) (sc t shift % 3600 / 60) (sc t shift % 60) shift = true ∧
    sv (yr (sc t shift / 86400)) (mo (sc t shift / 86400)) (dy (sc t shift / 86400)) (sc t shift % 86400 / 3600) (sc t shift % 3600 / 60) (sc t shift % 60) shift = t := by
  have h1 := (tm_iff _).1 ht
  have h2 := (sh_iff _).1 hs
  have b : 0 ≤ sc t shift / 86400 ∧ sc t shift / 86400 ≤ 4000000 := by unfold sc; omega
  have s := date_spec (sc t shift / 86400)
  have y := yr_bd (sc t shift / 86400) b.1 b.2
  have hv : vldB (yr (sc t shift / 86400)) (mo (sc t shift / 86400)) (dy (sc t shift / 86400)) = true := vld_mk (by omega)
  have hk : ckB (sc t shift % 86400 / 3600) (sc t shift % 3600 / 60) (sc t shift % 60) = true := (ck_iff _ _ _).2 (by omega)
  have e : sv (yr (sc t shift / 86400)) (mo (sc t shift / 86400)) (dy (sc t shift / 86400)) (sc t shift % 86400 / 3600) (sc t shift % 3600 / 60) (sc t shift % 60) shift = t := by
    have z : num (yr (sc t shift / 86400)) (mo (sc t shift / 86400)) (dy (sc t shift / 86400)) = sc t shift / 86400 - 2180498 := by unfold num; omega
    unfold sv; rw [z]; unfold sc; omega
  refine ⟨?_, e⟩
  unfold secB
  rw [e, hv, hs, hk, ht]; rfl
theorem secs_back (t shift : Int) (w : World) (ht : tmB t = true) (hs : shB shift = true) :
    Calls Try.prog 17 #[ofv (sc t shift), .int .i64 shift] w fun e w' => e = .returned (.tuple #[.int .i64 t, .int .i64 0]) ∧ Below w.heap.size w w' := by
  obtain ⟨h, e⟩ := back_at t shift ht hs
  have := secs_yes _ _ _ _ _ _ ((sc t shift / 86400 + 6) % 7) shift w h
  rw [e] at this
  exact this

set_option maxHeartbeats 2000000 in
theorem walk (a0 : Int) (a1 : Int) (b0 : (-9223372036854775808 ≤ a0 ∧ a0 ≤ 9223372036854775807)) (b1 : (-9223372036854775808 ≤ a1 ∧ a1 ≤ 9223372036854775807)) (w : World) :
    Calls Try.prog 6 #[.int .i64 a0, .int .i64 a1] w fun e w' => e = .returned (.bool true) ∧ Below w.heap.size w w' := by
  cases ht : tmB a0
  · go_enter Try.func6, Try.ntmps6
    go_wp2_with (first | (go_at_call 16; with_reducible refine (of_c1 _).mono ?_; rintro e w1 ⟨rfl, hb1⟩; obtain ⟨hc1, hf1⟩ := bcell hb1) | (go_at_call 16; with_reducible refine (of_no _ _ _ (by first | exact Or.inl (by assumption) | exact Or.inr (by assumption))).mono ?_; rintro e w2 ⟨rfl, hb2⟩; obtain ⟨hc2, hf2⟩ := bcell hb2))
    go_ret
    exact ⟨rfl, bstepA (bstep (bstepA hb1 _) hb2) _⟩
  cases hs : shB a1
  · go_enter Try.func6, Try.ntmps6
    go_wp2_with (first | (go_at_call 16; with_reducible refine (of_c1 _).mono ?_; rintro e w1 ⟨rfl, hb1⟩; obtain ⟨hc1, hf1⟩ := bcell hb1) | (go_at_call 16; with_reducible refine (of_no _ _ _ (by first | exact Or.inl (by assumption) | exact Or.inr (by assumption))).mono ?_; rintro e w2 ⟨rfl, hb2⟩; obtain ⟨hc2, hf2⟩ := bcell hb2))
    go_ret
    exact ⟨rfl, bstepA (bstep (bstepA hb1 _) hb2) _⟩
  have h1 := (tm_iff _).1 ht
  have h2 := (sh_iff _).1 hs
  cases hn : tmB (a0 + 86400)
  · go_enter Try.func6, Try.ntmps6
    go_wp2_with (first | (go_at_call 16; with_reducible refine (of_c1 _).mono ?_; rintro e w1 ⟨rfl, hb1⟩; obtain ⟨hc1, hf1⟩ := bcell hb1) | (go_at_call 16; with_reducible refine (of_yes a0 a1 _ ht hs).mono ?_; rintro e w2 ⟨rfl, hb2⟩; obtain ⟨hc2, hf2⟩ := bcell hb2) | (go_at_call 17; with_reducible refine (secs_back a0 a1 _ ht hs).mono ?_; rintro e w3 ⟨rfl, hb3⟩; obtain ⟨hc3, hf3⟩ := bcell hb3; have hz3 : w2.heap.size < w3.heap.size := (by have := hb3.size; simp at this; omega)) | (go_at_call 16; with_reducible refine (of_no (a0 + 86400) a1 _ (Or.inl hn)).mono ?_; rintro e w4 ⟨rfl, hb4⟩; obtain ⟨hc4, hf4⟩ := bcell hb4; have hz4 : w2.heap.size < w4.heap.size := (by have := hb4.size; omega)))
    go_ret
    exact ⟨rfl, bstepA (bstep (bstep (bstepA (bstep (bstepA hb1 _) hb2) _) hb3) hb4) _⟩
  · have q1 : ((sc (a0 + 86400) a1 / 86400 + 6) % 7 == (sc a0 a1 / 86400 + 6 + 1) % 7) = true := by simp only [beq_iff_eq]; unfold sc; omega
    have q2 : (sc (a0 + 86400) a1 % 86400 / 3600 == sc a0 a1 % 86400 / 3600) = true := by simp only [beq_iff_eq]; unfold sc; omega
    have q3 : (sc (a0 + 86400) a1 % 3600 / 60 == sc a0 a1 % 3600 / 60) = true := by simp only [beq_iff_eq]; unfold sc; omega
    have q4 : (sc (a0 + 86400) a1 % 60 == sc a0 a1 % 60) = true := by simp only [beq_iff_eq]; unfold sc; omega
    go_enter Try.func6, Try.ntmps6
    go_wp2_with (first | (go_at_call 16; with_reducible refine (of_c1 _).mono ?_; rintro e w1 ⟨rfl, hb1⟩; obtain ⟨hc1, hf1⟩ := bcell hb1) | (go_at_call 16; with_reducible refine (of_yes a0 a1 _ ht hs).mono ?_; rintro e w2 ⟨rfl, hb2⟩; obtain ⟨hc2, hf2⟩ := bcell hb2) | (go_at_call 17; with_reducible refine (secs_back a0 a1 _ ht hs).mono ?_; rintro e w3 ⟨rfl, hb3⟩; obtain ⟨hc3, hf3⟩ := bcell hb3; have hz3 : w2.heap.size < w3.heap.size := (by have := hb3.size; simp at this; omega)) | (go_at_call 16; with_reducible refine (of_yes (a0 + 86400) a1 _ hn hs).mono ?_; rintro e w4 ⟨rfl, hb4⟩; obtain ⟨hc4, hf4⟩ := bcell hb4; have hz4 : w2.heap.size < w4.heap.size := (by have := hb4.size; omega)))
    go_ret
    exact ⟨rfl, bstepA (bstep (bstep (bstepA (bstep (bstepA hb1 _) hb2) _) hb3) hb4) _⟩

set_option maxRecDepth 100000 in
theorem lifted (os : Os) (started : os.Started) (H : Type) (enc : TypeId × Value → H) :
    ReturnsInHanded {} Try.checked os 6 .any (Rows.civilBackSpec.pre6 enc Try.prog Try.f6 Rows.civilBackRow.domain false) (Rows.civilBackSpec.post enc Try.prog Try.f6 false true false false) := by
  refine returnsInHanded_of_change (C := Try.checked) own started (by kernel_rfl) Try.func6
    (ChangeSpec.witness6 (enc := enc) (C := Try.checked) false ⟨#[], #[.int .i64 0, .int .i64 0], []⟩ 8 (by kernel_rfl) (by kernel_rfl) (by kernel_rfl) (by kernel_rfl)) ?_
  intro W base args ds gs before hval0 hW hcnd _
  have hval : ∀ (j : Nat) t v, Try.f6.params[j]? = some t → args[j]? = some v → Value.okWide Try.prog W .any base t v := hval0
  have hW' := hW
  obtain ⟨p, q, hA0, hV, rfl, hfz, hnd⟩ := hW
  have hA : DataW.TrodAll enc Try.prog W 0 (fun _ => true) true Try.f6.params.toList args.toList ds p := hA0
  rw [Try.params6] at hA hval
  obtain ⟨v0, vs0, d0, ds0, p0, q0, hargs, rfl, rfl, k0, r0⟩ := trodAll_cons hA
  obtain ⟨v1, vs1, d1, ds1, p1, q1, rfl, rfl, rfl, k1, r1⟩ := trodAll_cons r0
  obtain ⟨rfl, rfl, rfl⟩ := trodAll_nil r1
  obtain rfl : args = #[v0, v1] := by cases args; simp_all
  obtain ⟨rfl, rfl⟩ := trodVars_none hV
  have lt0 : ∀ x ∈ p0, x.block < W.heap.size := by obtain ⟨m, hm⟩ := k0; exact DataW.trod_lt m _ _ _ hm
  have lt1 : ∀ x ∈ p1, x.block < W.heap.size := by obtain ⟨m, hm⟩ := k1; exact DataW.trod_lt m _ _ _ hm
  obtain ⟨a0, rfl, g0⟩ := Frm.val_int Try.underlying3 (hval 0 3 v0 rfl rfl)
  obtain ⟨a1, rfl, g1⟩ := Frm.val_int Try.underlying3 (hval 1 3 v1 rfl rfl)
  clear hA0 hval0
  refine (walk a0 a1 (Frm.bd_i64 g0) (Frm.bd_i64 g1) W).mono fun e W' ⟨he, bel⟩ => ?_
  subst he
  exact ⟨_, rfl, _, _, _, [], _, [], hW', trodAll_mk1 (shut_bool Try.underlying4 _), (trodAll_cons_mk (Below.trod laidOut (by kernel_rfl) (of_decide_eq_true (by kernel_rfl)) k0 bel lt0) (trodAll_cons_mk (Below.trod laidOut (by kernel_rfl) (of_decide_eq_true (by kernel_rfl)) k1 bel lt1) trodAll_mk0)), rfl, bel.frame _, fun h => by cases h⟩

theorem over : Rows.civilBackRow.holds Try.pinned (OpenSpec.ofChange Rows.civilBackSpec) :=
  OpenClaim.holds_of_wide 6 Try.f6 rfl rfl rfl rfl rfl rfl rfl ⟨rfl, rfl, rfl, rfl, rfl⟩ rfl rfl rfl rfl rfl (by kernel_rfl) Try.func6 (by kernel_rfl)
    (of_decide_eq_true (by kernel_rfl)) (by unfold Func.isWrapper; first | (rw [if_pos (by decide +kernel)]; kernel_rfl) | (rw [if_neg (by decide +kernel)]; exact ⟨rfl, rfl⟩))
    (fun os started H enc _ => lifted os started H enc)

theorem proved : Rows.CivilBackSaid :=
  over
#print axioms proved
end Go.Proofs.Ytdoblmgilinknad.civilBack
