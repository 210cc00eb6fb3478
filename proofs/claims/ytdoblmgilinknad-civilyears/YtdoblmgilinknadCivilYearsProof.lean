/- Proved: tidekeep.CivilYears answers true for every two ints y and m (no condition): civil.Days counts 365 or 366 days a year, 146097 in 400 years, and the first of a month follows the 28th of the month ahead by 1 to 4 days. -/
import Derived.Test.YtdoblmgilinknadRows
import Derived.WalkKit
import Derived.ProofKit
import Derived.OpenShut
import Derived.Test.YtdoblmgilinknadCivilWalks
import Derived.Test.YtdoblmgilinknadRestWalk
namespace Go.Proofs.Ytdoblmgilinknad.civilYears
open Go.ChangeShapes Go.WideShapes Go.ChangeAt Go.RowKit
set_option linter.unusedVariables false      -- a walk need not use every 'w<i>' (that an integer argument fits its kind)

theorem own : ownKnob Try.prog.godebug = none := by kernel_rfl

open Cal Civ Rst
theorem days_at (y m d n : Int) (w : World) (h : vldB y m d = true) (e : num y m d = n) :
    Calls Try.prog 18 #[.int .i64 y, .int .i64 m, .int .i64 d] w fun e w' => e = .returned (.tuple #[.int .i64 n, .int .i64 0]) ∧ w' = w := by
  subst e; exact days_yes y m d w h
theorem days_c1 (w : World) : Calls Try.prog 18 #[.int .i64 1970, .int .i64 1, .int .i64 1] w fun e w' => e = .returned (.tuple #[.int .i64 0, .int .i64 0]) ∧ w' = w :=
  days_at 1970 1 1 0 w (by decide) (by decide)
theorem days_c2 (w : World) : Calls Try.prog 18 #[.int .i64 2000, .int .i64 3, .int .i64 1] w fun e w' => e = .returned (.tuple #[.int .i64 11017, .int .i64 0]) ∧ w' = w :=
  days_at 2000 3 1 11017 w (by decide) (by decide)
theorem years_facts (y m : Int) (h1 : -3000 ≤ y) (h2 : y ≤ 3999) (h3 : 1 ≤ m) (h4 : m ≤ 12) :
    vldB y 1 1 = true ∧ vldB (y + 1) 1 1 = true ∧ vldB (y + 400) 1 1 = true ∧ vldB y m 28 = true ∧ vldB (y + m / 12) (m % 12 + 1) 1 = true ∧
    num (y + 1) 1 1 - num y 1 1 = 365 + lp y ∧ num (y + 400) 1 1 - num y 1 1 = 146097 ∧
    1 ≤ num (y + m / 12) (m % 12 + 1) 1 - num y m 28 ∧ num (y + m / 12) (m % 12 + 1) 1 - num y m 28 ≤ 4 := by
  have l1 := dim_bd y 1
  have l2 := dim_bd (y + 1) 1
  have l3 := dim_bd (y + 400) 1
  have l4 := dim_bd y m
  have l5 := dim_bd (y + m / 12) (m % 12 + 1)
  refine ⟨vld_mk (by omega), vld_mk (by omega), vld_mk (by omega), vld_mk (by omega), vld_mk (by omega), ?_, ?_, ?_⟩
  · have := ys_succ y; unfold num; rw [cum_one, cum_one]; omega
  · have : ys (y + 400) = ys y + 146097 := by unfold ys; omega
    unfold num; rw [cum_one, cum_one]; omega
  · by_cases e : m = 12
    · subst e
      have a := ys_succ y
      have b := cum_succ y 12 (by omega) (by omega)
      have c := cum_last y
      have f : (12 : Int) / 12 = 1 := by decide
      have g : (12 : Int) % 12 + 1 = 1 := by decide
      have i : (12 : Int) + 1 = 13 := by decide
      rw [i] at b
      rw [f, g]; unfold num; rw [cum_one]; omega
    · have f : m / 12 = 0 := by omega
      have g : m % 12 + 1 = m + 1 := by omega
      have b := cum_succ y m (by omega) (by omega)
      rw [f, g, Int.add_zero]; unfold num; omega
/-! ### STEP 1: THE WALK: the Go text returns true. 'Grown w w'': the world has at most new blocks (Derived/RowKit3.lean). Part the cases AHEAD of 'go_enter' where a test parts the walk; take each callee by a contract of your own. -/
theorem walk (a0 : Int) (a1 : Int) (w0 : (Lit.int .i64 a0).wf = true) (w1 : (Lit.int .i64 a1).wf = true) (w : World) :
    Calls Try.prog 8 #[.int .i64 a0, .int .i64 a1] w fun e w' => e = .returned (.bool true) ∧ Grown w w' := by
  have ha : -3000 ≤ a0 % 7000 - 3000 ∧ a0 % 7000 - 3000 ≤ 3999 := by omega
  have hb : 1 ≤ a1 % 12 + 1 ∧ a1 % 12 + 1 ≤ 12 := by omega
  obtain ⟨v1, v2, v3, v4, v5, f1, f2, f3, f4⟩ := years_facts (a0 % 7000 - 3000) (a1 % 12 + 1) ha.1 ha.2 hb.1 hb.2
  have hm : (a1 % 12 + 1) % 12 = (a1 + 1) % 12 := by omega
  rw [hm] at v5 f3 f4
  clear hm
  have n1 := num_bd _ _ _ v1
  have n2 := num_bd _ _ _ v2
  have n3 := num_bd _ _ _ v3
  have n4 := num_bd _ _ _ v4
  have n5 := num_bd _ _ _ v5
  have l := lp_01 (a0 % 7000 - 3000)
  have d3 : (num (a0 % 7000 - 3000 + 400) 1 1 - num (a0 % 7000 - 3000) 1 1 == 146097) = true := by simp [f2]
  by_cases c : lp (a0 % 7000 - 3000) = 0
  · have d1 : (num (a0 % 7000 - 3000 + 1) 1 1 - num (a0 % 7000 - 3000) 1 1 == 365) = true := by simp; omega
    clear f1 f2 c l
    go_enter Try.func8, Try.ntmps8
    go_wp2_with (first | (go_at_call 15; refine (rest_any _ _ _ (by omega) (by omega)).mono ?_; rintro e w' ⟨rfl, rfl⟩) | (go_at_call 18; with_reducible refine (days_c1 _).mono ?_; rintro e w' ⟨rfl, rfl⟩) | (go_at_call 18; with_reducible refine (days_c2 _).mono ?_; rintro e w' ⟨rfl, rfl⟩) | (go_at_call 18; with_reducible refine (days_yes _ _ _ _ (by assumption)).mono ?_; rintro e w' ⟨rfl, rfl⟩))
    go_ret
    exact ⟨rfl, Grown.refl _⟩
  · have d1 : (num (a0 % 7000 - 3000 + 1) 1 1 - num (a0 % 7000 - 3000) 1 1 == 365) = false := by simp; omega
    have d2 : (num (a0 % 7000 - 3000 + 1) 1 1 - num (a0 % 7000 - 3000) 1 1 == 366) = true := by simp; omega
    clear f1 f2 c l
    go_enter Try.func8, Try.ntmps8
    go_wp2_with (first | (go_at_call 15; refine (rest_any _ _ _ (by omega) (by omega)).mono ?_; rintro e w' ⟨rfl, rfl⟩) | (go_at_call 18; with_reducible refine (days_c1 _).mono ?_; rintro e w' ⟨rfl, rfl⟩) | (go_at_call 18; with_reducible refine (days_c2 _).mono ?_; rintro e w' ⟨rfl, rfl⟩) | (go_at_call 18; with_reducible refine (days_yes _ _ _ _ (by assumption)).mono ?_; rintro e w' ⟨rfl, rfl⟩))
    go_ret
    exact ⟨rfl, Grown.refl _⟩

/-! ### THE ROW's STEP: WRITTEN OUT: LEAVE IT -/
set_option maxRecDepth 100000 in
theorem lifted (os : Os) (started : os.Started) (H : Type) (enc : TypeId × Value → H) :
    ReturnsInHanded {} Try.checked os 8 .any (Rows.civilYearsSpec.pre6 enc Try.prog Try.f8 Rows.civilYearsRow.domain false) (Rows.civilYearsSpec.post enc Try.prog Try.f8 false true false false) := by
  refine returnsInHanded_of_change (C := Try.checked) own started (by kernel_rfl) Try.func8
    (ChangeSpec.witness6 (enc := enc) (C := Try.checked) false ⟨#[], #[.int .i64 0, .int .i64 0], []⟩ 8 (by kernel_rfl) (by kernel_rfl) (by kernel_rfl) (by kernel_rfl)) ?_
  intro W base args ds gs before hval0 hW hcnd _
  have hval : ∀ (j : Nat) t v, Try.f8.params[j]? = some t → args[j]? = some v → Value.okWide Try.prog W .any base t v := hval0
  have hW' := hW
  obtain ⟨p, q, hA0, hV, rfl, hfz, hnd⟩ := hW
  have hA : DataW.TrodAll enc Try.prog W 0 (fun _ => true) true Try.f8.params.toList args.toList ds p := hA0
  rw [Try.params8] at hA hval
  obtain ⟨v0, vs0, d0, ds0, p0, q0, hargs, rfl, rfl, h0, r0⟩ := trodAll_cons hA
  obtain ⟨v1, vs1, d1, ds1, p1, q1, rfl, rfl, rfl, h1, r1⟩ := trodAll_cons r0
  obtain ⟨rfl, rfl, rfl⟩ := trodAll_nil r1
  obtain rfl : args = #[v0, v1] := by cases args; simp_all
  obtain ⟨rfl, rfl⟩ := trodVars_none hV
  obtain ⟨a0, rfl, rfl, rfl, w0⟩ := open_int Try.underlying3 (hval 0 3 v0 rfl rfl) h0
  obtain ⟨a1, rfl, rfl, rfl, w1⟩ := open_int Try.underlying3 (hval 1 3 v1 rfl rfl) h1
  clear hA0 hval0
  simp only [List.append_nil] at hW'
  refine (walk a0 a1 w0 w1 W).mono fun e W' ⟨he, hg⟩ => ?_
  subst he
  exact ⟨_, rfl, post_of_same (pa := []) (pv := []) hW' (fun _ _ _ => (trodAll_cons_mk (shut_bool Try.underlying4 _) trodAll_mk0)) (fun sp _ => (trodAll_cons_mk (shut_int Try.underlying3 w0) (trodAll_cons_mk (shut_int Try.underlying3 w1) trodAll_mk0))) (fun _ _ => rfl) rfl
    (hg.frame _) hg.2.1 (ok_one (by kernel_rfl) rfl (okWide_bool_mk Try.underlying4 _))⟩

theorem over : Rows.civilYearsRow.holds Try.pinned (OpenSpec.ofChange Rows.civilYearsSpec) :=
  OpenClaim.holds_of_wide 8 Try.f8 rfl rfl rfl rfl rfl rfl rfl ⟨rfl, rfl, rfl, rfl, rfl⟩ rfl rfl rfl rfl rfl (by kernel_rfl) Try.func8 (by kernel_rfl)
    (of_decide_eq_true (by kernel_rfl)) (by unfold Func.isWrapper; first | (rw [if_pos (by decide +kernel)]; kernel_rfl) | (rw [if_neg (by decide +kernel)]; exact ⟨rfl, rfl⟩))
    (fun os started H enc _ => lifted os started H enc)

/-- ████ THE STATEMENT ████ -/
theorem proved : Rows.CivilYearsSaid :=
  over
#print axioms proved
end Go.Proofs.Ytdoblmgilinknad.civilYears
