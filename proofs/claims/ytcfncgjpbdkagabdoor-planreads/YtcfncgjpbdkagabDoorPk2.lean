/- What each function of package civil answers, at every number that it is asked: contracts, the leaves first. What civil.Of answers, at every input. What the calls of package cron answer: sets, Check, Match. What cron.Match answers. What cron.Match answers: whole. A cron as one thing; what span.Check answers. What plan.Check answers: the functions, the leaves first. -/
import Derived.Test.YtcfncgjpbdkagabDoorRows
import Derived.WalkKit
import Derived.ProofKit
import Derived.Test.YtcfncgjpbdkagabDoorPk1
import Derived.Test.YtcfncgjpbdkagabDoorLaid
import Derived.Deep.QuietTactic
import Derived.BigQuiet
import Derived.Lib.ConvBytes
namespace Go.Proofs.YtcfncgjpbdkagabDoor
namespace Civ
open Cal Go.RowKit

theorem ret_int {k : IntKind} {a b : Int} (h : a = b) : Ending.returned (.int k a) = .returned (.int k b) := by rw [h]
theorem ret_bool {a b : Bool} (h : a = b) : Ending.returned (.bool a) = .returned (.bool b) := by rw [h]
theorem ret_two {k l : IntKind} {a b c d : Int} (h : a = b) (g : c = d) : Ending.returned (.tuple #[.int k a, .int l c]) = .returned (.tuple #[.int k b, .int l d]) := by rw [h, g]

theorem tz (y k : Int) : (y.tmod k == 0) = decide (y % k = 0) := by
  rw [Bool.eq_iff_iff]; simp only [beq_iff_eq, decide_eq_true_eq]
  rw [← Int.dvd_iff_tmod_eq_zero, ← Int.dvd_iff_emod_eq_zero]

theorem leap_any (y : Int) (w : World) :
    Calls Tryd.prog 96 #[.int .i64 y] w fun e w' => e = .returned (.bool (lpB y)) ∧ w' = w := by
  have t4 := tz y 4
  have t1 : (y.tmod 100 != 0) = !decide (y % 100 = 0) := by rw [bne, tz]
  have t0 := tz y 400
  by_cases h4 : y % 4 = 0
  · by_cases h1 : y % 100 = 0
    · by_cases h0 : y % 400 = 0
      · have HL : Hid (lpB y = true) := by unfold Hid lpB; simp; omega
        simp only [h4, h1, h0, decide_true, Bool.not_true] at t4 t1 t0
        clear h4 h1 h0
        go_enter Tryd.func96, Tryd.ntmps96
        go_wp2
        go_ret
        exact ⟨ret_bool HL.out.symm, rfl⟩
      · have HL : Hid (lpB y = false) := by unfold Hid lpB; simp; omega
        simp only [h4, h1, h0, decide_true, decide_false, Bool.not_true] at t4 t1 t0
        clear h4 h1 h0
        go_enter Tryd.func96, Tryd.ntmps96
        go_wp2
        go_ret
        exact ⟨ret_bool HL.out.symm, rfl⟩
    · have HL : Hid (lpB y = true) := by unfold Hid lpB; simp; omega
      simp only [h4, h1, decide_true, decide_false, Bool.not_false] at t4 t1
      clear h4 h1 t0
      go_enter Tryd.func96, Tryd.ntmps96
      go_wp2
      go_ret
      exact ⟨ret_bool HL.out.symm, rfl⟩
  · have HL : Hid (lpB y = false) := by unfold Hid lpB; simp; omega
    simp only [h4, decide_false] at t4
    clear h4 t1 t0
    go_enter Tryd.func96, Tryd.ntmps96
    go_wp2
    go_ret
    exact ⟨ret_bool HL.out.symm, rfl⟩

theorem dim_any (y m : Int) (w : World) :
    Calls Tryd.prog 75 #[.int .i64 y, .int .i64 m] w fun e w' => e = .returned (.int .i64 (dim y m)) ∧ w' = w := by
  have hl := lpB_lp y
  by_cases h2 : m = 2
  · subst h2
    have hd : dim y 2 = 28 + lp y := by simp [dim]
    cases hb : lpB y
    all_goals
      have HD : Hid (dim y 2 = 28 + lp y) := hd
      have HL : Hid _ := hl
      rw [hb] at HL
      clear hd hl
      go_enter Tryd.func75, Tryd.ntmps75
      go_wp2_with (go_at_call 96; refine (leap_any _ _).mono ?_; rintro e w' ⟨rfl, rfl⟩)
      go_ret
      exact ⟨ret_int (by rw [HD.out, HL.out]; rfl), rfl⟩
  · clear hl
    by_cases h30 : m = 4 ∨ m = 6 ∨ m = 9 ∨ m = 11
    · rcases h30 with rfl | rfl | rfl | rfl
      all_goals
        go_enter Tryd.func75, Tryd.ntmps75
        go_wp2
        go_ret
        exact ⟨ret_int (by simp [dim]), rfl⟩
    · have HD : Hid (dim y m = 31) := by unfold Hid dim; rw [if_neg h2, if_neg h30]
      have d2 : (m == 2) = false := by simp [h2]
      have d4 : (m == 4) = false := by simp; omega
      have d6 : (m == 6) = false := by simp; omega
      have d9 : (m == 9) = false := by simp; omega
      have d11 : (m == 11) = false := by simp; omega
      clear h2 h30
      go_enter Tryd.func75, Tryd.ntmps75
      go_wp2
      go_ret
      exact ⟨ret_int HD.out.symm, rfl⟩

theorem ys_any (y : Int) (w : World) (h1 : -4000 ≤ y) (h2 : y ≤ 9000) :
    Calls Tryd.prog 76 #[.int .i64 y] w fun e w' => e = .returned (.int .i64 (ys y)) ∧ w' = w := by
  go_enter Tryd.func76, Tryd.ntmps76
  go_wp2
  go_ret
  exact ⟨ret_int (by unfold ys; omega), rfl⟩

/-- a Bool of one's own for 'sec is a time', 'shift is a shift' -/
def tmB (n : Int) : Bool := decide (-100000000000 ≤ n ∧ n ≤ 100000000000)
def shB (n : Int) : Bool := decide (-900 ≤ n ∧ n ≤ 900)
theorem tm_iff (n : Int) : tmB n = true ↔ (-100000000000 ≤ n ∧ n ≤ 100000000000) := by unfold tmB; simp
theorem sh_iff (n : Int) : shB n = true ↔ (-900 ≤ n ∧ n ≤ 900) := by unfold shB; simp

theorem time_any (n : Int) (w : World) :
    Calls Tryd.prog 93 #[.int .i64 n] w fun e w' => e = .returned (.bool (tmB n)) ∧ w' = w := by
  by_cases h1 : n < -100000000000
  · have HT : Hid (tmB n = false) := by unfold Hid tmB; simp; omega
    have d : decide (-100000000000 ≤ n) = false := by simp; omega
    go_enter Tryd.func93, Tryd.ntmps93
    go_wp2
    go_ret
    exact ⟨ret_bool HT.out.symm, rfl⟩
  · have d : decide (-100000000000 ≤ n) = true := by simp; omega
    have HT : Hid (tmB n = decide (n ≤ 100000000000)) := by unfold Hid tmB; rw [decide_eq_decide]; omega
    go_enter Tryd.func93, Tryd.ntmps93
    go_wp2
    go_ret
    exact ⟨ret_bool HT.out.symm, rfl⟩

theorem shift_any (n : Int) (w : World) :
    Calls Tryd.prog 94 #[.int .i64 n] w fun e w' => e = .returned (.bool (shB n)) ∧ w' = w := by
  by_cases h1 : n < -900
  · have HT : Hid (shB n = false) := by unfold Hid shB; simp; omega
    have d : decide (-900 ≤ n) = false := by simp; omega
    go_enter Tryd.func94, Tryd.ntmps94
    go_wp2
    go_ret
    exact ⟨ret_bool HT.out.symm, rfl⟩
  · have d : decide (-900 ≤ n) = true := by simp; omega
    have HT : Hid (shB n = decide (n ≤ 900)) := by unfold Hid shB; rw [decide_eq_decide]; omega
    go_enter Tryd.func94, Tryd.ntmps94
    go_wp2
    go_ret
    exact ⟨ret_bool HT.out.symm, rfl⟩

theorem days_no (y m d : Int) (w : World) (h : vldB y m d = false) :
    Calls Tryd.prog 52 #[.int .i64 y, .int .i64 m, .int .i64 d] w fun e w' => e = .returned (.tuple #[.int .i64 0, .int .i64 1]) ∧ w' = w := by
  have h' : ¬ (-4000 ≤ y ∧ y ≤ 8000 ∧ 1 ≤ m ∧ m ≤ 12 ∧ 1 ≤ d ∧ d ≤ dim y m) := by
    intro c; rw [vld_mk c] at h; exact Bool.noConfusion h
  clear h
  by_cases h1 : y < -4000
  · clear h'
    go_enter Tryd.func52, Tryd.ntmps52
    go_wp2
    go_ret2
    exact ⟨rfl, rfl⟩
  by_cases h2 : 8000 < y
  · clear h'
    go_enter Tryd.func52, Tryd.ntmps52
    go_wp2
    go_ret2
    exact ⟨rfl, rfl⟩
  by_cases h3 : m < 1
  · clear h'
    go_enter Tryd.func52, Tryd.ntmps52
    go_wp2
    go_ret2
    exact ⟨rfl, rfl⟩
  by_cases h4 : 12 < m
  · clear h'
    go_enter Tryd.func52, Tryd.ntmps52
    go_wp2
    go_ret2
    exact ⟨rfl, rfl⟩
  by_cases h5 : d < 1
  · clear h'
    go_enter Tryd.func52, Tryd.ntmps52
    go_wp2
    go_ret2
    exact ⟨rfl, rfl⟩
  have h6 : dim y m < d := by omega
  clear h'
  go_enter Tryd.func52, Tryd.ntmps52
  go_wp2_with (go_at_call 75; refine (dim_any _ _ _).mono ?_; rintro e w' ⟨rfl, rfl⟩)
  go_ret2
  exact ⟨rfl, rfl⟩

theorem days_yes (y m d : Int) (w : World) (h : vldB y m d = true) :
    Calls Tryd.prog 52 #[.int .i64 y, .int .i64 m, .int .i64 d] w fun e w' => e = .returned (.tuple #[.int .i64 (num y m d), .int .i64 0]) ∧ w' = w := by
  obtain ⟨h1, h2, h3, h4, h5, h6⟩ := (vld_iff _ _ _).1 h
  clear h
  have b1 := ys_bd y h1 (by omega)
  have b2 := ys_bd 1970 (by omega) (by omega)
  have b3 := dim_bd y m
  go_enter Tryd.func52, Tryd.ntmps52
  go_wp2_with (first | (go_at_call 75; refine (dim_any _ _ _).mono ?_; rintro e w' ⟨rfl, rfl⟩) | (go_at_call 76; refine (ys_any _ _ (by omega) (by omega)).mono ?_; rintro e w' ⟨rfl, rfl⟩))
  go_loop [8, 9] (fun n k => ∃ j : Int, 1 ≤ j ∧ j ≤ m ∧ k = .int .i64 j ∧ n = .int .i64 (ys y + d - 1 + cum y j)) (fun _ k => (12 - intOf k).toNat)
  case atStart => exact ⟨1, by omega, by omega, rfl, by rw [cum_one]; go_num⟩
  case round =>
    obtain ⟨j, hj1, hj2, rfl, rfl⟩ := hrel
    have cb := cum_bd y j
    have db := dim_bd y j
    by_cases hlt : j < m
    · have HC : Hid (cum y (j + 1) = cum y j + dim y j) := cum_succ y j hj1 (by omega)
      go_wp2_with (first | (go_at_call 75; refine (dim_any _ _ _).mono ?_; rintro e w' ⟨rfl, rfl⟩))
      go_round
      case rel => exact ⟨j + 1, by omega, by omega, rfl, by rw [HC.out]; go_num⟩
      case measure => simp [intOf]; omega
    · have hjm : Hid (j = m) := by unfold Hid; omega
      have H0 : Hid (ys 1970 = 2180498) := ys_1970
      go_wp2_with (first | (go_at_call 75; refine (dim_any _ _ _).mono ?_; rintro e w' ⟨rfl, rfl⟩) | (go_at_call 76; refine (ys_any _ _ (by omega) (by omega)).mono ?_; rintro e w' ⟨rfl, rfl⟩))
      go_ret2
      exact ⟨ret_two (by unfold num; rw [← hjm.out, H0.out]; omega) rfl, rfl⟩

/-- a date and time, as a value -/
abbrev civ (y m d h i s k : Int) : Value := .agg #[.int .i64 y, .int .i64 m, .int .i64 d, .int .i64 h, .int .i64 i, .int .i64 s, .int .i64 k]

theorem ret_civ {a b : Value} (h : a = b) : Ending.returned a = .returned b := by rw [h]

set_option maxHeartbeats 1000000 in
theorem date_any (n : Int) (w : World) (h1 : 0 ≤ n) (h2 : n ≤ 4000000) :
    Calls Tryd.prog 95 #[.int .i64 n] w fun e w' => e = .returned (civ (yr n) (mo n) (dy n) 0 0 0 ((n + 6) % 7)) ∧ Below w.heap.size w w' := by
  have b1 := ys_bd (-4000 + n * 400 / 146097) (by omega) (by omega)
  have b2 := ys_bd (-4000 + n * 400 / 146097 + 1) (by omega) (by omega)
  have yb := yr_bd n h1 h2
  have b3 := ys_bd (yr n) yb.1 (by omega)
  have ysp := yr_spec n
  by_cases c1 : n < ys (-4000 + n * 400 / 146097)
  · have HY : Hid (yr n = -4000 + n * 400 / 146097 - 1) := by unfold Hid yr; rw [if_pos c1]
    rw [HY.out] at yb b3 ysp
    have HN : Hid (ys (-4000 + n * 400 / 146097 - 1 + 1) = ys (-4000 + n * 400 / 146097 - 1) + 365 + lp (-4000 + n * 400 / 146097 - 1)) := ys_succ _
    go_enter Tryd.func95, Tryd.ntmps95
    go_wp2_with (first | (go_at_call 75; refine (dim_any _ _ _).mono ?_; rintro e w' ⟨rfl, rfl⟩) | (go_at_call 76; refine (ys_any _ _ (by omega) (by omega)).mono ?_; rintro e w' ⟨rfl, rfl⟩))
    go_loop [4, 5] (fun r k => ∃ j : Int, 1 ≤ j ∧ j ≤ 12 ∧ k = .int .i64 j ∧ cum (-4000 + n * 400 / 146097 - 1) j ≤ n - ys (-4000 + n * 400 / 146097 - 1) ∧ r = .int .i64 (n - ys (-4000 + n * 400 / 146097 - 1) - cum (-4000 + n * 400 / 146097 - 1) j)) (fun _ k => (12 - intOf k).toNat)
    case atStart => exact ⟨1, by omega, by omega, rfl, by rw [cum_one]; omega, by rw [cum_one]; go_num⟩
    case round =>
      obtain ⟨j, hj1, hj2, rfl, hc, rfl⟩ := hrel
      have cb := cum_bd (-4000 + n * 400 / 146097 - 1) j
      have db := dim_bd (-4000 + n * 400 / 146097 - 1) j
      have HC : Hid (cum (-4000 + n * 400 / 146097 - 1) (j + 1) = cum (-4000 + n * 400 / 146097 - 1) j + dim (-4000 + n * 400 / 146097 - 1) j) := cum_succ _ j hj1 hj2
      have hl := lp_01 (-4000 + n * 400 / 146097 - 1)
      by_cases hlt : dim (-4000 + n * 400 / 146097 - 1) j ≤ n - ys (-4000 + n * 400 / 146097 - 1) - cum (-4000 + n * 400 / 146097 - 1) j
      · have hj3 : j < 12 := by
          by_cases e : j = 12
          · subst e
            have c13 := cum_last (-4000 + n * 400 / 146097 - 1)
            have q := HC.out
            have q2 := HN.out
            rw [show (12 : Int) + 1 = 13 by decide] at q
            omega
          · omega
        go_wp2_with (first | (go_at_call 75; refine (dim_any _ _ _).mono ?_; rintro e w' ⟨rfl, rfl⟩))
        go_round
        case rel => exact ⟨j + 1, by omega, by omega, rfl, by rw [HC.out]; omega, by rw [HC.out]; go_num⟩
        case measure => simp [intOf]; omega
      · obtain ⟨e1, e2, e3⟩ := date_is (n := n) (y := -4000 + n * 400 / 146097 - 1) (m := j) (d := n - ys (-4000 + n * 400 / 146097 - 1) - cum (-4000 + n * 400 / 146097 - 1) j + 1) ⟨hj1, hj2, by omega, by omega⟩ (by omega)
        have E : Hid (_ ∧ _ ∧ _) := ⟨e1, e2, e3⟩
        clear e1 e2 e3
        go_wp2_with (first | (go_at_call 75; refine (dim_any _ _ _).mono ?_; rintro e w' ⟨rfl, rfl⟩))
        refine bodyPost_ret (v := civ (-4000 + n * 400 / 146097 - 1) j (n - ys (-4000 + n * 400 / 146097 - 1) - cum (-4000 + n * 400 / 146097 - 1) j + 1) 0 0 0 ((n + 6) % 7)) (by simp [results, Tryd.results95, go_sem]) rfl ⟨?_, ?_⟩
        · rw [E.out.1, E.out.2.1, E.out.2.2]
        · exact (Below.refl _ _).alloc (Nat.le_refl _) _
  · by_cases c2 : ys (-4000 + n * 400 / 146097 + 1) ≤ n
    · have HY : Hid (yr n = -4000 + n * 400 / 146097 + 1) := by unfold Hid yr; rw [if_neg c1, if_pos c2]
      rw [HY.out] at yb b3 ysp
      have HN : Hid (ys (-4000 + n * 400 / 146097 + 1 + 1) = ys (-4000 + n * 400 / 146097 + 1) + 365 + lp (-4000 + n * 400 / 146097 + 1)) := ys_succ _
      go_enter Tryd.func95, Tryd.ntmps95
      go_wp2_with (first | (go_at_call 75; refine (dim_any _ _ _).mono ?_; rintro e w' ⟨rfl, rfl⟩) | (go_at_call 76; refine (ys_any _ _ (by omega) (by omega)).mono ?_; rintro e w' ⟨rfl, rfl⟩))
      go_loop [4, 5] (fun r k => ∃ j : Int, 1 ≤ j ∧ j ≤ 12 ∧ k = .int .i64 j ∧ cum (-4000 + n * 400 / 146097 + 1) j ≤ n - ys (-4000 + n * 400 / 146097 + 1) ∧ r = .int .i64 (n - ys (-4000 + n * 400 / 146097 + 1) - cum (-4000 + n * 400 / 146097 + 1) j)) (fun _ k => (12 - intOf k).toNat)
      case atStart => exact ⟨1, by omega, by omega, rfl, by rw [cum_one]; omega, by rw [cum_one]; go_num⟩
      case round =>
        obtain ⟨j, hj1, hj2, rfl, hc, rfl⟩ := hrel
        have cb := cum_bd (-4000 + n * 400 / 146097 + 1) j
        have db := dim_bd (-4000 + n * 400 / 146097 + 1) j
        have HC : Hid (cum (-4000 + n * 400 / 146097 + 1) (j + 1) = cum (-4000 + n * 400 / 146097 + 1) j + dim (-4000 + n * 400 / 146097 + 1) j) := cum_succ _ j hj1 hj2
        have hl := lp_01 (-4000 + n * 400 / 146097 + 1)
        by_cases hlt : dim (-4000 + n * 400 / 146097 + 1) j ≤ n - ys (-4000 + n * 400 / 146097 + 1) - cum (-4000 + n * 400 / 146097 + 1) j
        · have hj3 : j < 12 := by
            by_cases e : j = 12
            · subst e
              have c13 := cum_last (-4000 + n * 400 / 146097 + 1)
              have q := HC.out
              have q2 := HN.out
              rw [show (12 : Int) + 1 = 13 by decide] at q
              omega
            · omega
          go_wp2_with (first | (go_at_call 75; refine (dim_any _ _ _).mono ?_; rintro e w' ⟨rfl, rfl⟩))
          go_round
          case rel => exact ⟨j + 1, by omega, by omega, rfl, by rw [HC.out]; omega, by rw [HC.out]; go_num⟩
          case measure => simp [intOf]; omega
        · obtain ⟨e1, e2, e3⟩ := date_is (n := n) (y := -4000 + n * 400 / 146097 + 1) (m := j) (d := n - ys (-4000 + n * 400 / 146097 + 1) - cum (-4000 + n * 400 / 146097 + 1) j + 1) ⟨hj1, hj2, by omega, by omega⟩ (by omega)
          have E : Hid (_ ∧ _ ∧ _) := ⟨e1, e2, e3⟩
          clear e1 e2 e3
          go_wp2_with (first | (go_at_call 75; refine (dim_any _ _ _).mono ?_; rintro e w' ⟨rfl, rfl⟩))
          refine bodyPost_ret (v := civ (-4000 + n * 400 / 146097 + 1) j (n - ys (-4000 + n * 400 / 146097 + 1) - cum (-4000 + n * 400 / 146097 + 1) j + 1) 0 0 0 ((n + 6) % 7)) (by simp [results, Tryd.results95, go_sem]) rfl ⟨?_, ?_⟩
          · rw [E.out.1, E.out.2.1, E.out.2.2]
          · exact (Below.refl _ _).alloc (Nat.le_refl _) _
    · have HY : Hid (yr n = -4000 + n * 400 / 146097) := by unfold Hid yr; rw [if_neg c1, if_neg c2]
      rw [HY.out] at yb b3 ysp
      have HN : Hid (ys (-4000 + n * 400 / 146097 + 1) = ys (-4000 + n * 400 / 146097) + 365 + lp (-4000 + n * 400 / 146097)) := ys_succ _
      go_enter Tryd.func95, Tryd.ntmps95
      go_wp2_with (first | (go_at_call 75; refine (dim_any _ _ _).mono ?_; rintro e w' ⟨rfl, rfl⟩) | (go_at_call 76; refine (ys_any _ _ (by omega) (by omega)).mono ?_; rintro e w' ⟨rfl, rfl⟩))
      go_loop [4, 5] (fun r k => ∃ j : Int, 1 ≤ j ∧ j ≤ 12 ∧ k = .int .i64 j ∧ cum (-4000 + n * 400 / 146097) j ≤ n - ys (-4000 + n * 400 / 146097) ∧ r = .int .i64 (n - ys (-4000 + n * 400 / 146097) - cum (-4000 + n * 400 / 146097) j)) (fun _ k => (12 - intOf k).toNat)
      case atStart => exact ⟨1, by omega, by omega, rfl, by rw [cum_one]; omega, by rw [cum_one]; go_num⟩
      case round =>
        obtain ⟨j, hj1, hj2, rfl, hc, rfl⟩ := hrel
        have cb := cum_bd (-4000 + n * 400 / 146097) j
        have db := dim_bd (-4000 + n * 400 / 146097) j
        have HC : Hid (cum (-4000 + n * 400 / 146097) (j + 1) = cum (-4000 + n * 400 / 146097) j + dim (-4000 + n * 400 / 146097) j) := cum_succ _ j hj1 hj2
        have hl := lp_01 (-4000 + n * 400 / 146097)
        by_cases hlt : dim (-4000 + n * 400 / 146097) j ≤ n - ys (-4000 + n * 400 / 146097) - cum (-4000 + n * 400 / 146097) j
        · have hj3 : j < 12 := by
            by_cases e : j = 12
            · subst e
              have c13 := cum_last (-4000 + n * 400 / 146097)
              have q := HC.out
              have q2 := HN.out
              rw [show (12 : Int) + 1 = 13 by decide] at q
              omega
            · omega
          go_wp2_with (first | (go_at_call 75; refine (dim_any _ _ _).mono ?_; rintro e w' ⟨rfl, rfl⟩))
          go_round
          case rel => exact ⟨j + 1, by omega, by omega, rfl, by rw [HC.out]; omega, by rw [HC.out]; go_num⟩
          case measure => simp [intOf]; omega
        · obtain ⟨e1, e2, e3⟩ := date_is (n := n) (y := -4000 + n * 400 / 146097) (m := j) (d := n - ys (-4000 + n * 400 / 146097) - cum (-4000 + n * 400 / 146097) j + 1) ⟨hj1, hj2, by omega, by omega⟩ (by omega)
          have E : Hid (_ ∧ _ ∧ _) := ⟨e1, e2, e3⟩
          clear e1 e2 e3
          go_wp2_with (first | (go_at_call 75; refine (dim_any _ _ _).mono ?_; rintro e w' ⟨rfl, rfl⟩))
          refine bodyPost_ret (v := civ (-4000 + n * 400 / 146097) j (n - ys (-4000 + n * 400 / 146097) - cum (-4000 + n * 400 / 146097) j + 1) 0 0 0 ((n + 6) % 7)) (by simp [results, Tryd.results95, go_sem]) rfl ⟨?_, ?_⟩
          · rw [E.out.1, E.out.2.1, E.out.2.2]
          · exact (Below.refl _ _).alloc (Nat.le_refl _) _

end Civ
end Go.Proofs.YtcfncgjpbdkagabDoor
namespace Go.Proofs.YtcfncgjpbdkagabDoor
namespace Civ
open Cal Go.RowKit

theorem bcell {W w1 : World} (hb : Below W.heap.size W w1) : (∀ b o, b < W.heap.size → w1.cell? ⟨b, o, none⟩ = W.cell? ⟨b, o, none⟩) ∧ (∀ b o, b < W.heap.size → w1.frozen? ⟨b, o, none⟩ = W.frozen? ⟨b, o, none⟩) :=
  ⟨fun b o h => hb.cell (p := ⟨b, o, none⟩) h, fun b o h => hb.frozen (p := ⟨b, o, none⟩) h⟩

/-- one call behind another; a new block behind a call -/
theorem bstep {a b c : World} (h : Below a.heap.size a b) (k : Below b.heap.size b c) : Below a.heap.size a c := h.trans (k.mono h.size)
theorem bstepA {a b : World} (h : Below a.heap.size a b) (o : Obj) : Below a.heap.size a (b.alloc o) := h.alloc h.size o

theorem of_no (sec shift : Int) (w : World) (h : tmB sec = false ∨ shB shift = false) :
    Calls Tryd.prog 74 #[.int .i64 sec, .int .i64 shift] w fun e w' => e = .returned (.tuple #[civ 0 0 0 0 0 0 0, .int .i64 1]) ∧ Below w.heap.size w w' := by
  cases ht : tmB sec
  · clear h
    go_enter Tryd.func74, Tryd.ntmps74
    go_wp2_with (first | (go_at_call 93; refine (time_any _ _).mono ?_; rintro e w' ⟨rfl, rfl⟩) | (go_at_call 94; refine (shift_any _ _).mono ?_; rintro e w' ⟨rfl, rfl⟩))
    refine bodyPost_ret (v := .tuple #[civ 0 0 0 0 0 0 0, .int .i64 1]) (by simp [results, Tryd.results74, go_sem]) rfl ⟨rfl, ?_⟩
    exact (Below.refl _ _).alloc (Nat.le_refl _) _
  · have hs : shB shift = false := by rcases h with h | h; (rw [ht] at h; exact Bool.noConfusion h); exact h
    clear h
    go_enter Tryd.func74, Tryd.ntmps74
    go_wp2_with (first | (go_at_call 93; refine (time_any _ _).mono ?_; rintro e w' ⟨rfl, rfl⟩) | (go_at_call 94; refine (shift_any _ _).mono ?_; rintro e w' ⟨rfl, rfl⟩))
    refine bodyPost_ret (v := .tuple #[civ 0 0 0 0 0 0 0, .int .i64 1]) (by simp [results, Tryd.results74, go_sem]) rfl ⟨rfl, ?_⟩
    exact (Below.refl _ _).alloc (Nat.le_refl _) _

/-- seconds behind the beginning of -4000 -/
abbrev sc (sec shift : Int) : Int := sec + (188395027200 + shift * 60)
abbrev ofv (t : Int) : Value := civ (yr (t / 86400)) (mo (t / 86400)) (dy (t / 86400)) (t % 86400 / 3600) (t % 3600 / 60) (t % 60) ((t / 86400 + 6) % 7)

theorem ys_c (w : World) : Calls Tryd.prog 76 #[.int .i64 1970] w fun e w' => e = .returned (.int .i64 2180498) ∧ w' = w := by
  have := ys_any 1970 w (by omega) (by omega)
  rw [ys_1970] at this
  exact this

set_option maxHeartbeats 1000000 in
theorem of_yes (sec shift : Int) (w : World) (ht : tmB sec = true) (hs : shB shift = true) :
    Calls Tryd.prog 74 #[.int .i64 sec, .int .i64 shift] w fun e w' => e = .returned (.tuple #[ofv (sc sec shift), .int .i64 0]) ∧ Below w.heap.size w w' := by
  have h1 := (tm_iff _).1 ht
  have h2 := (sh_iff _).1 hs
  go_enter Tryd.func74, Tryd.ntmps74
  go_wp2_with (first | (go_at_call 93; refine (time_any _ _).mono ?_; rintro e w' ⟨rfl, rfl⟩) | (go_at_call 94; refine (shift_any _ _).mono ?_; rintro e w' ⟨rfl, rfl⟩) | (go_at_call 76; refine (ys_c _).mono ?_; rintro e w' ⟨rfl, rfl⟩) | (go_at_call 95; refine (date_any _ _ (by omega) (by omega)).mono ?_; rintro e w1 ⟨rfl, hb⟩; obtain ⟨hc, hf⟩ := bcell hb; have hz : w.heap.size < w1.heap.size := (by have := hb.size; simp at this; omega)))
  refine bodyPost_ret (v := .tuple #[ofv (sc sec shift), .int .i64 0]) (by simp [results, Tryd.results74, go_sem, hc, hz]) rfl ⟨rfl, ?_⟩
  exact (((((((((((Below.refl _ _).alloc (Nat.le_refl _) _).trans (hb.mono (by simp))).setCell (Nat.le_refl _) _).setCell (Nat.le_refl _) _).setCell (Nat.le_refl _) _).setCell (Nat.le_refl _) _).setCell (Nat.le_refl _) _).setCell (Nat.le_refl _) _).setCell (Nat.le_refl _) _).alloc (by simp; omega) _)
end Civ
end Go.Proofs.YtcfncgjpbdkagabDoor
namespace Go.Proofs.YtcfncgjpbdkagabDoor
namespace Crn
open Go.RowKit Lai Civ

theorem has_any (s n : Int) (w : World) (h0 : 0 ≤ s ∧ s ≤ 18446744073709551615) (hn : -9223372036854775808 ≤ n ∧ n ≤ 9223372036854775807) :
    Calls Tryd.prog 78 #[.int .u64 s, .int .i64 n] w fun e w' => e = .returned (.bool (inS s n)) ∧ w' = w := by
  by_cases g : 0 ≤ n ∧ n ≤ 63
  · have ha := and1 s n h0.1 h0.2 g.1 g.2
    cases hi : inS s n <;> rw [hi] at ha <;> simp only [Bool.false_eq_true, if_false, if_true] at ha <;> clear hi
    all_goals
      go_enter Tryd.func78, Tryd.ntmps78
      go_wp2
      all_goals
        go_ret
        first | omega | (refine ⟨ret_bool ?_, rfl⟩; simp)
  · have hi : inS s n = false := by
      unfold inS
      by_cases g0 : 0 ≤ n
      · rw [decide_eq_false (show ¬ n ≤ 63 by omega)]; simp
      · rw [decide_eq_false g0]; rfl
    rw [hi]
    clear hi
    go_enter Tryd.func78, Tryd.ntmps78
    go_wp2
    all_goals
      go_ret
      first | (exfalso; omega) | (refine ⟨ret_bool ?_, rfl⟩; simp <;> omega)

theorem pow_mono (a b : Nat) (h : a ≤ b) : (2 : Int) ^ a ≤ 2 ^ b := by
  have := Nat.pow_le_pow_right (show 0 < 2 by omega) h
  exact_mod_cast this
theorem wrap_pow (n : Nat) (h : n ≤ 63) : IntKind.u64.wrap ((2 : Int) ^ n) = 2 ^ n := by
  have h1 := pow_mono n 63 h
  have h0 : (0 : Int) ≤ 2 ^ n := by exact_mod_cast Nat.zero_le (2 ^ n)
  rw [IntKind.wrap_u64]
  omega

theorem all_any (l m v : Int) (w : World) (hl : 0 ≤ l ∧ l ≤ m) (hm : m ≤ 62) (hv : 2 ^ (m + 1).toNat - 2 ^ l.toNat = v) :
    Calls Tryd.prog 47 #[.agg #[.int .i64 l, .int .i64 m]] w fun e w' => e = .returned (.int .u64 v) ∧ Below w.heap.size w w' := by
  have e1 := wrap_pow (m + 1).toNat (by omega)
  have e2 := wrap_pow l.toNat (by omega)
  have e3 : IntKind.u64.wrap (2 ^ (m + 1).toNat - 2 ^ l.toNat) = v := by
    have h1 := pow_mono (m + 1).toNat 63 (by omega)
    have h2 := pow_mono l.toNat (m + 1).toNat (by omega)
    have h3 : (0 : Int) ≤ 2 ^ l.toNat := by exact_mod_cast Nat.zero_le (2 ^ l.toNat)
    rw [IntKind.wrap_u64]
    omega
  clear hv
  go_enter Tryd.func47, Tryd.ntmps47
  go_wp2
  go_region
  all_goals
    go_wp2
    go_ret
    exact ⟨ret_int (by first | rfl | assumption | (rw [e1, e2]; exact e3)), ((Below.refl _ _).alloc (Nat.le_refl _) _).drew⟩

theorem all_min (w : World) : Calls Tryd.prog 47 #[.agg #[.int .i64 0, .int .i64 59]] w fun e w' => e = .returned (.int .u64 1152921504606846975) ∧ Below w.heap.size w w' :=
  all_any 0 59 1152921504606846975 w (by omega) (by omega) (by rfl)
theorem all_hour (w : World) : Calls Tryd.prog 47 #[.agg #[.int .i64 0, .int .i64 23]] w fun e w' => e = .returned (.int .u64 16777215) ∧ Below w.heap.size w w' :=
  all_any 0 23 16777215 w (by omega) (by omega) (by rfl)
theorem all_day (w : World) : Calls Tryd.prog 47 #[.agg #[.int .i64 1, .int .i64 31]] w fun e w' => e = .returned (.int .u64 4294967294) ∧ Below w.heap.size w w' :=
  all_any 1 31 4294967294 w (by omega) (by omega) (by rfl)
theorem all_mon (w : World) : Calls Tryd.prog 47 #[.agg #[.int .i64 1, .int .i64 12]] w fun e w' => e = .returned (.int .u64 8190) ∧ Below w.heap.size w w' :=
  all_any 1 12 8190 w (by omega) (by omega) (by rfl)
theorem all_week (w : World) : Calls Tryd.prog 47 #[.agg #[.int .i64 0, .int .i64 6]] w fun e w' => e = .returned (.int .u64 127) ∧ Below w.heap.size w w' :=
  all_any 0 6 127 w (by omega) (by omega) (by rfl)

theorem sets_any (mi ho da mo we : Int) (ad aw : Bool) (w : World) :
    Calls Tryd.prog 46 #[cronV mi ho da mo we ad aw] w fun e w' => e = .returned (.agg #[.int .u64 mi, .int .u64 ho, .int .u64 da, .int .u64 mo, .int .u64 we]) ∧ Below w.heap.size w w' := by
  go_enter Tryd.func46, Tryd.ntmps46
  go_wp2
  refine bodyPost_ret (v := .agg #[.int .u64 mi, .int .u64 ho, .int .u64 da, .int .u64 mo, .int .u64 we]) (by simp [results, Tryd.results46, go_sem]) rfl ⟨rfl, ?_⟩
  exact ((Below.refl _ _).alloc (Nat.le_refl _) _).alloc (by simp) _
set_option maxRecDepth 20000 in
set_option maxHeartbeats 2000000 in
theorem check_any (mi ho da mo we : Int) (ad aw : Bool) (w : World) (hB : BdsAt w) :
    Calls Tryd.prog 21 #[cronV mi ho da mo we ad aw] w fun e w' => e = .returned (.int .i64 (chkE mi ho da mo we ad aw)) ∧ Below w.heap.size w w' := by
  go_enter Tryd.func21, Tryd.ntmps21
  go_wp2_with (go_at_call 46; with_reducible refine (sets_any _ _ _ _ _ _ _ _).mono ?_; rintro e w1 ⟨rfl, hb1⟩)
  have hz1 := hb1.size
  have hw1 : Below w.heap.size w w1 := (((Below.refl _ _).alloc (Nat.le_refl _) _).alloc (by simp) _).trans (hb1.mono (by simp; omega))
  have hm1 : ∀ j v, (#[Value.bool false, .bool false, .bool ad, .bool false, .bool aw])[j]? = some v → w1.cell? ⟨w.heap.size + 1, j, none⟩ = some v := by
    intro j v hj
    rw [hb1.cell (p := ⟨w.heap.size + 1, j, none⟩) (by simp)]
    simpa using hj
  go_loopw [14] (fun i wr => ∃ k : Nat, k ≤ 5 ∧ i = .int .i64 k ∧ (∀ j, j < k → okK mi ho da mo we ad aw j = true) ∧ Below w1.heap.size w1 wr) (fun i _ => 5 - (intOf i).toNat)
  case atStart => exact ⟨0, by omega, rfl, fun j hj => absurd hj (by omega), Below.refl _ _⟩
  case round =>
    obtain ⟨k, hk, rfl, hp, hbr⟩ := hrel
    have hBr : BdsAt wr := (hB.below hw1 (Nat.le_refl _)).below hbr (Nat.le_refl _)
    have hm : ∀ j v, (#[Value.bool false, .bool false, .bool ad, .bool false, .bool aw])[j]? = some v → wr.cell? ⟨w.heap.size + 1, j, none⟩ = some v := by
      intro j v hj
      rw [hbr.cell (p := ⟨w.heap.size + 1, j, none⟩) (by simp at hz1; show w.heap.size + 1 < _; omega)]
      exact hm1 j v hj
    have hlt : w.heap.size + 1 < wr.heap.size := by have := hbr.size; simp at hz1; omega
    clear hm1 hB
    have HP : Hid (∀ j, j < k → okK mi ho da mo we ad aw j = true) := hp
    clear hp hz1
    obtain rfl | rfl | rfl | rfl | rfl | rfl : k = 0 ∨ k = 1 ∨ k = 2 ∨ k = 3 ∨ k = 4 ∨ k = 5 := by omega
    · have c0 : wr.cell? ⟨0, 0, none⟩ = some (.int .i64 0) := hBr 0 (by decide)
      have c1 : wr.cell? ⟨0, 1, none⟩ = some (.int .i64 59) := hBr 1 (by decide)
      have cm : wr.cell? ⟨w.heap.size + 1, 0, none⟩ = some (.bool false) := hm 0 _ rfl
      have hi : ∀ u, (Instr.index 95 (.agg #[.int .u64 mi, .int .u64 ho, .int .u64 da, .int .u64 mo, .int .u64 we]) (.int .i64 0)).run Tryd.prog u = .ok (.int .u64 mi) u := fun _ => by kernel_rfl
      clear hBr hm
      go_wp2_with (go_at_call 47; with_reducible refine (all_min _).mono ?_; rintro e w2 ⟨rfl, hb2⟩; have cm2 := (hb2.cell (p := ⟨w.heap.size + 1, 0, none⟩) (by exact hlt)).trans cm)
      all_goals first
        | (go_ret; exact ⟨ret_int (chkE_bad 0 (by simp_all [okK, okB, fMin])), (hw1.trans ((hbr.trans (hb2.mono hbr.size)).mono (by have := hb1.size; simp at this; omega)))⟩)
        | (go_roundw
           case rel => exact ⟨1, by omega, rfl, ok_step HP (by simp_all [okK, okB, fMin]), hbr.trans (hb2.mono hbr.size)⟩
           case measure => simp [intOf])
    · have c0 : wr.cell? ⟨0, 2, none⟩ = some (.int .i64 0) := hBr 2 (by decide)
      have c1 : wr.cell? ⟨0, 3, none⟩ = some (.int .i64 23) := hBr 3 (by decide)
      have cm : wr.cell? ⟨w.heap.size + 1, 1, none⟩ = some (.bool false) := hm 1 _ rfl
      have hi : ∀ u, (Instr.index 95 (.agg #[.int .u64 mi, .int .u64 ho, .int .u64 da, .int .u64 mo, .int .u64 we]) (.int .i64 1)).run Tryd.prog u = .ok (.int .u64 ho) u := fun _ => by kernel_rfl
      clear hBr hm
      go_wp2_with (go_at_call 47; with_reducible refine (all_hour _).mono ?_; rintro e w2 ⟨rfl, hb2⟩; have cm2 := (hb2.cell (p := ⟨w.heap.size + 1, 1, none⟩) (by exact hlt)).trans cm)
      all_goals first
        | (go_ret; exact ⟨ret_int (chkE_bad 1 (by simp_all [okK, okB, fHour])), (hw1.trans ((hbr.trans (hb2.mono hbr.size)).mono (by have := hb1.size; simp at this; omega)))⟩)
        | (go_roundw
           case rel => exact ⟨2, by omega, rfl, ok_step HP (by simp_all [okK, okB, fHour]), hbr.trans (hb2.mono hbr.size)⟩
           case measure => simp [intOf])
    · have c0 : wr.cell? ⟨0, 4, none⟩ = some (.int .i64 1) := hBr 4 (by decide)
      have c1 : wr.cell? ⟨0, 5, none⟩ = some (.int .i64 31) := hBr 5 (by decide)
      have cm : wr.cell? ⟨w.heap.size + 1, 2, none⟩ = some (.bool ad) := hm 2 _ rfl
      have hi : ∀ u, (Instr.index 95 (.agg #[.int .u64 mi, .int .u64 ho, .int .u64 da, .int .u64 mo, .int .u64 we]) (.int .i64 2)).run Tryd.prog u = .ok (.int .u64 da) u := fun _ => by kernel_rfl
      clear hBr hm
      cases ad
      all_goals
        go_wp2_with (go_at_call 47; with_reducible refine (all_day _).mono ?_; rintro e w2 ⟨rfl, hb2⟩; have cm2 := (hb2.cell (p := ⟨w.heap.size + 1, 2, none⟩) (by exact hlt)).trans cm)
        all_goals first
          | (go_ret; exact ⟨ret_int (chkE_bad 2 (by simp_all [okK, okB, fDay])), (hw1.trans ((hbr.trans (hb2.mono hbr.size)).mono (by have := hb1.size; simp at this; omega)))⟩)
          | (go_roundw
             case rel => exact ⟨3, by omega, rfl, ok_step HP (by simp_all [okK, okB, fDay]), hbr.trans (hb2.mono hbr.size)⟩
             case measure => simp [intOf])
    · have c0 : wr.cell? ⟨0, 6, none⟩ = some (.int .i64 1) := hBr 6 (by decide)
      have c1 : wr.cell? ⟨0, 7, none⟩ = some (.int .i64 12) := hBr 7 (by decide)
      have cm : wr.cell? ⟨w.heap.size + 1, 3, none⟩ = some (.bool false) := hm 3 _ rfl
      have hi : ∀ u, (Instr.index 95 (.agg #[.int .u64 mi, .int .u64 ho, .int .u64 da, .int .u64 mo, .int .u64 we]) (.int .i64 3)).run Tryd.prog u = .ok (.int .u64 mo) u := fun _ => by kernel_rfl
      clear hBr hm
      go_wp2_with (go_at_call 47; with_reducible refine (all_mon _).mono ?_; rintro e w2 ⟨rfl, hb2⟩; have cm2 := (hb2.cell (p := ⟨w.heap.size + 1, 3, none⟩) (by exact hlt)).trans cm)
      all_goals first
        | (go_ret; exact ⟨ret_int (chkE_bad 3 (by simp_all [okK, okB, fMon])), (hw1.trans ((hbr.trans (hb2.mono hbr.size)).mono (by have := hb1.size; simp at this; omega)))⟩)
        | (go_roundw
           case rel => exact ⟨4, by omega, rfl, ok_step HP (by simp_all [okK, okB, fMon]), hbr.trans (hb2.mono hbr.size)⟩
           case measure => simp [intOf])
    · have c0 : wr.cell? ⟨0, 8, none⟩ = some (.int .i64 0) := hBr 8 (by decide)
      have c1 : wr.cell? ⟨0, 9, none⟩ = some (.int .i64 6) := hBr 9 (by decide)
      have cm : wr.cell? ⟨w.heap.size + 1, 4, none⟩ = some (.bool aw) := hm 4 _ rfl
      have hi : ∀ u, (Instr.index 95 (.agg #[.int .u64 mi, .int .u64 ho, .int .u64 da, .int .u64 mo, .int .u64 we]) (.int .i64 4)).run Tryd.prog u = .ok (.int .u64 we) u := fun _ => by kernel_rfl
      clear hBr hm
      cases aw
      all_goals
        go_wp2_with (go_at_call 47; with_reducible refine (all_week _).mono ?_; rintro e w2 ⟨rfl, hb2⟩; have cm2 := (hb2.cell (p := ⟨w.heap.size + 1, 4, none⟩) (by exact hlt)).trans cm)
        all_goals first
          | (go_ret; exact ⟨ret_int (chkE_bad 4 (by simp_all [okK, okB, fWeek])), (hw1.trans ((hbr.trans (hb2.mono hbr.size)).mono (by have := hb1.size; simp at this; omega)))⟩)
          | (go_roundw
             case rel => exact ⟨5, by omega, rfl, ok_step HP (by simp_all [okK, okB, fWeek]), hbr.trans (hb2.mono hbr.size)⟩
             case measure => simp [intOf])
    · clear hBr hm
      go_wp2
      go_ret
      exact ⟨ret_int (chkE_good HP), hw1.trans (hbr.mono (by have := hb1.size; simp at this; omega))⟩
end Crn
end Go.Proofs.YtcfncgjpbdkagabDoor
namespace Go.Proofs.YtcfncgjpbdkagabDoor
namespace Crn
open Go.RowKit Lai Civ


theorem bdrewN {n : Nat} {a b : World} (h : Below n a b) : ∀ k, Below n a (b.drewN k)
  | 0 => h
  | k + 1 => (bdrewN h k).drew

theorem either_any (mi ho da mo we : Int) (ad aw : Bool) (w : World) :
    Calls Tryd.prog 79 #[cronV mi ho da mo we ad aw] w fun e w' => e = .returned (.bool (!ad && !aw)) ∧ Below w.heap.size w w' := by
  cases ad <;> cases aw
  all_goals
    go_enter Tryd.func79, Tryd.ntmps79
    go_wp2
    go_ret
    exact ⟨rfl, (Below.refl _ _).alloc (Nat.le_refl _) _⟩

set_option maxRecDepth 20000 in
set_option maxHeartbeats 4000000 in
theorem day_any (mi ho da mo we : Int) (ad aw : Bool) (y m d h i s k : Int) (w : World) (b2 : U da) (b3 : U mo) (b4 : U we) (bm : I m) (bd : I d) (bk : I k) :
    Calls Tryd.prog 54 #[cronV mi ho da mo we ad aw, civ y m d h i s k] w fun e w' => e = .returned (.bool (dayB da mo we ad aw m d k)) ∧ Below w.heap.size w w' := by
  unfold dayB
  cases h1 : inS da d <;> cases h2 : inS we k <;> cases h3 : inS mo m <;> cases h4 : (!ad && !aw)
  all_goals
    have c1 := has_any da d (h0 := b2) (hn := bd)
    have c2 := has_any we k (h0 := b4) (hn := bk)
    have c3 := has_any mo m (h0 := b3) (hn := bm)
    have c4 := either_any mi ho da mo we ad aw
    rw [h1] at c1; rw [h2] at c2; rw [h3] at c3; rw [h4] at c4
    clear h1 h2 h3 h4
    go_enter Tryd.func54, Tryd.ntmps54
    go_wp2
    go_quiet (first | (go_at_call 78; with_reducible refine Calls.quiet_of_same (c1 _)) | (go_at_call 78; with_reducible refine Calls.quiet_of_same (c2 _)))
    go_wp2_with (first
      | (go_at_call 78; with_reducible refine (c3 _).mono ?_; rintro e w1 ⟨rfl, rfl⟩)
      | (go_at_call 79; with_reducible refine (c4 _).mono ?_; rintro e w1 ⟨rfl, hb1⟩))
    go_ret
    first
      | exact ⟨rfl, bdrewN (((Below.refl _ _).alloc (Nat.le_refl _) _).alloc (by simp) _) _⟩
      | exact ⟨rfl, (bdrewN (((Below.refl _ _).alloc (Nat.le_refl _) _).alloc (by simp) _) _).trans (hb1.mono (by simp; omega))⟩
end Crn
end Go.Proofs.YtcfncgjpbdkagabDoor
namespace Go.Proofs.YtcfncgjpbdkagabDoor
namespace Crn
open Go.RowKit Lai Civ

theorem check_no (mi ho da mo we : Int) (ad aw : Bool) (w : World) (hB : BdsAt w) (h : chkB mi ho da mo we ad aw = false) :
    Calls Tryd.prog 21 #[cronV mi ho da mo we ad aw] w fun e w' => e = .returned (.int .i64 1) ∧ Below w.heap.size w w' := by
  have := check_any mi ho da mo we ad aw w hB
  rwa [show chkE mi ho da mo we ad aw = 1 by unfold chkE; rw [h]; rfl] at this
theorem check_yes (mi ho da mo we : Int) (ad aw : Bool) (w : World) (hB : BdsAt w) (h : chkB mi ho da mo we ad aw = true) :
    Calls Tryd.prog 21 #[cronV mi ho da mo we ad aw] w fun e w' => e = .returned (.int .i64 0) ∧ Below w.heap.size w w' := by
  have := check_any mi ho da mo we ad aw w hB
  rwa [show chkE mi ho da mo we ad aw = 0 by unfold chkE; rw [h]; rfl] at this

theorem balloc {w : World} (o : Obj) : Below w.heap.size w (w.alloc o) := (Below.refl _ _).alloc (Nat.le_refl _) _
theorem balloc2 {w : World} (o p : Obj) : Below w.heap.size w ((w.alloc o).alloc p) := ((Below.refl _ _).alloc (Nat.le_refl _) _).alloc (by simp) _
theorem ballocs {w w1 : World} {o p : Obj} (h : Below ((w.alloc o).alloc p).heap.size ((w.alloc o).alloc p) w1) : Below w.heap.size w w1 := (balloc2 o p).trans (h.mono (by simp; omega))

end Crn
end Go.Proofs.YtcfncgjpbdkagabDoor
namespace Go.Proofs.YtcfncgjpbdkagabDoor
namespace Crn
open Go.RowKit Lai Civ
set_option maxRecDepth 8000

section
variable (a b : K) (w : World)
set_option maxHeartbeats 2000000 in
theorem scheck_yes (hB : BdsAt w) (ha : kc a = true) (hb : kc b = true) :
    Calls Tryd.prog 7 #[spanV a b] w fun e w' => e = .returned (.int .i64 0) ∧ Below w.heap.size w w' := by
  have c1 := fun w hB => check_yes a.mi a.ho a.da a.mn a.we a.ad a.aw w hB ha
  have c2 := fun w hB => check_yes b.mi b.ho b.da b.mn b.we b.ad b.aw w hB hb
  clear ha hb
  go_enter Tryd.func7, Tryd.ntmps7
  go_wp2_with (first
    | (go_at_call 21; (with_reducible refine (c1 _ (hB.below (balloc _) (Nat.le_refl _))).mono ?_); rintro e w1 ⟨rfl, hb1⟩; have hB1 : BdsAt w1 := (hB.below (balloc _) (Nat.le_refl _)).below hb1 (Nat.le_refl _); have hw1 : Hid (Below w.heap.size w w1) := (balloc _).trans (hb1.mono (by simp)); obtain ⟨hc1, hf1⟩ := bcell hb1)
    | (go_at_call 21; (with_reducible refine (c2 _ hB1).mono ?_); rintro e w2 ⟨rfl, hb2⟩))
  go_ret
  exact ⟨rfl, bstep hw1 hb2⟩
set_option maxHeartbeats 2000000 in
theorem scheck_no (hB : BdsAt w) (h : kc a = false ∨ kc b = false) :
    Calls Tryd.prog 7 #[spanV a b] w fun e w' => e = .returned (.int .i64 1) ∧ Below w.heap.size w w' := by
  cases ha : kc a
  · have c1 := fun w hB => check_no a.mi a.ho a.da a.mn a.we a.ad a.aw w hB ha
    clear h ha
    go_enter Tryd.func7, Tryd.ntmps7
    go_wp2_with (first
      | (go_at_call 21; (with_reducible refine (c1 _ (hB.below (balloc _) (Nat.le_refl _))).mono ?_); rintro e w1 ⟨rfl, hb1⟩; have hw1 : Hid (Below w.heap.size w w1) := (balloc _).trans (hb1.mono (by simp))))
    go_ret
    exact ⟨rfl, hw1⟩
  · have hb : kc b = false := by rcases h with h | h; (rw [ha] at h; cases h); exact h
    have c1 := fun w hB => check_yes a.mi a.ho a.da a.mn a.we a.ad a.aw w hB ha
    have c2 := fun w hB => check_no b.mi b.ho b.da b.mn b.we b.ad b.aw w hB hb
    clear ha hb h
    go_enter Tryd.func7, Tryd.ntmps7
    go_wp2_with (first
      | (go_at_call 21; (with_reducible refine (c1 _ (hB.below (balloc _) (Nat.le_refl _))).mono ?_); rintro e w1 ⟨rfl, hb1⟩; have hB1 : BdsAt w1 := (hB.below (balloc _) (Nat.le_refl _)).below hb1 (Nat.le_refl _); have hw1 : Hid (Below w.heap.size w w1) := (balloc _).trans (hb1.mono (by simp)); obtain ⟨hc1, hf1⟩ := bcell hb1)
      | (go_at_call 21; (with_reducible refine (c2 _ hB1).mono ?_); rintro e w2 ⟨rfl, hb2⟩))
    go_ret
    exact ⟨rfl, bstep hw1 hb2⟩
end
end Crn
end Go.Proofs.YtcfncgjpbdkagabDoor
namespace Go.Proofs.YtcfncgjpbdkagabDoor
namespace Pln
open Go.RowKit Lai Civ Crn
set_option maxRecDepth 8000

theorem rg_iff {n lo hi : Int} : rg n lo hi = true ↔ lo ≤ n ∧ n ≤ hi := by unfold rg; rw [decide_eq_true_eq]
theorem within_any (n lo hi : Int) (w : World) :
    Calls Tryd.prog 63 #[.int .i64 n, .int .i64 lo, .int .i64 hi] w fun e w' => e = .returned (.bool (rg n lo hi)) ∧ w' = w := by
  by_cases h1 : lo ≤ n
  · have d : decide (lo ≤ n) = true := by simp [h1]
    have HT : Hid (rg n lo hi = decide (n ≤ hi)) := by unfold Hid rg; rw [decide_eq_decide]; omega
    go_enter Tryd.func63, Tryd.ntmps63
    go_wp2
    go_ret
    exact ⟨by rw [HT.out]; rfl, rfl⟩
  · have d : decide (lo ≤ n) = false := by simp; omega
    have HT : Hid (rg n lo hi = false) := by unfold Hid rg; rw [decide_eq_false_iff_not]; omega
    go_enter Tryd.func63, Tryd.ntmps63
    go_wp2
    go_ret
    exact ⟨by rw [HT.out]; rfl, rfl⟩
theorem ret_b {a b : Bool} (h : a = b) : Ending.returned (.bool a) = .returned (.bool b) := by rw [h]
theorem ret_n {a b : Int} (h : a = b) : Ending.returned (.int .i64 a) = .returned (.int .i64 b) := by rw [h]

/-- a text's bytes in a new slice -/
theorem bytes0 (w : World) (t : List UInt8) : ∃ (W : World) (cap : Nat),
    (convert 9 69 (.string ⟨t.toArray⟩)).run Tryd.prog w = .ok (.slice (some ⟨w.heap.size, 0, none⟩) t.length cap) W ∧
    (∀ (j : Nat) x, t[j]? = some x → W.cell? ⟨w.heap.size, j, none⟩ = some (.int .u8 x.toNat)) ∧ Below w.heap.size w W ∧ w.heap.size < W.heap.size := by
  have h1 := Lib.run_convert_string_bytes (P := Tryd.prog) w 9 69 5 ⟨t.toArray⟩ Tryd.underlying9 Tryd.underlying69 Tryd.underlying5
  have hsz : (⟨t.toArray⟩ : ByteArray).size = t.length := rfl
  rw [hsz] at h1
  refine ⟨_, _, h1, fun j x hx => ?_, ⟨rfl, rfl, rfl, ?_, fun k hk => ?_⟩, ?_⟩
  · have hj : j < t.length := (List.getElem?_eq_some_iff.1 hx).1
    rw [Lib.bytesWorld_cell w 5 ⟨t.toArray⟩ j hj]
    have e : (t.getD j 0) = x := by rw [List.getD_eq_getElem?_getD, hx]; rfl
    show some (Value.int .u8 ((t.getD j 0).toNat)) = _
    rw [e]
  · rw [Lib.bytesWorld_size]; omega
  · exact Lib.bytesWorld_at_old _ _ _ _ hk
  · rw [Lib.bytesWorld_size]; omega
def NmR (t : List UInt8) (W : World) (i : Value) (wr : World) : Prop := ∃ k : Nat, k ≤ t.length ∧ i = .int .i64 k ∧ (∀ j x, j < k → t[j]? = some x → nmC x = true) ∧ wr = W
theorem nm_no' {t : List UInt8} {x : UInt8} {k : Nat} (h : t[k]? = some x) (hx : nmC x = false) : nmB t = false := by
  unfold nmB
  rw [Bool.and_eq_false_iff]
  right
  rw [List.all_eq_false]
  exact ⟨x, List.mem_of_getElem? h, by rw [hx]; decide⟩
theorem nm_yes {t : List UInt8} (hl : 1 ≤ t.length ∧ t.length ≤ 16) (h : ∀ j x, j < t.length → t[j]? = some x → nmC x = true) : nmB t = true := by
  unfold nmB
  rw [Bool.and_eq_true, decide_eq_true_eq]
  refine ⟨hl, List.all_eq_true.2 fun x hx => ?_⟩
  obtain ⟨j, hj⟩ := List.mem_iff_getElem?.1 hx
  exact h j x (List.getElem?_eq_some_iff.1 hj).1 hj
theorem nmC_cases (x : UInt8) : (nmC x = true ∧ ((97 ≤ (x.toNat : Int) ∧ (x.toNat : Int) ≤ 122) ∨ (48 ≤ (x.toNat : Int) ∧ (x.toNat : Int) ≤ 57) ∨ (x.toNat : Int) = 45)) ∨
    (nmC x = false ∧ ((x.toNat : Int) < 45 ∨ (45 < (x.toNat : Int) ∧ (x.toNat : Int) < 48) ∨ (57 < (x.toNat : Int) ∧ (x.toNat : Int) < 97) ∨ 122 < (x.toNat : Int))) := by
  cases h : nmC x
  · right
    refine ⟨rfl, ?_⟩
    unfold nmC at h
    simp only [Bool.or_eq_false_iff, decide_eq_false_iff_not] at h
    omega
  · left
    refine ⟨rfl, ?_⟩
    unfold nmC at h
    simp only [Bool.or_eq_true, decide_eq_true_eq] at h
    omega
set_option maxHeartbeats 4000000 in
theorem isName_any (t : List UInt8) (w : World) (hl : t.length ≤ 9223372036854775807) :
    Calls Tryd.prog 35 #[.string ⟨t.toArray⟩] w fun e w' => e = .returned (.bool (nmB t)) ∧ Below w.heap.size w w' := by
  have hsz : (⟨t.toArray⟩ : ByteArray).size = t.length := rfl
  have c0 := fun w => within_any (t.length : Int) 1 16 w
  by_cases h : 1 ≤ t.length ∧ t.length ≤ 16
  · rw [show rg (t.length : Int) 1 16 = true from rg_iff.2 (by omega)] at c0
    obtain ⟨W, cap, hk, hc, hb, hz⟩ := bytes0 w t
    go_enter Tryd.func35, Tryd.ntmps35
    go_wp2_with (go_at_call 63; (with_reducible refine (c0 _).mono ?_); rintro e w1 ⟨rfl, h9⟩; have h8 := h9.symm; clear h9; subst h8)
    go_loopw [12] (fun i wr => NmR t W i wr) (fun i _ => t.length - (intOf i).toNat)
    case atStart => exact ⟨0, Nat.zero_le _, rfl, (fun j x hj => absurd hj (by omega)), rfl⟩
    case round =>
      obtain ⟨k, hk1, rfl, hd0, h9⟩ := hrel
      have h8 := h9.symm
      clear h9
      subst h8
      have HD : Hid (∀ j x, j < k → t[j]? = some x → nmC x = true) := hd0
      clear hd0
      by_cases hlt : k < t.length
      · have hlt' : (k : Int) < t.length := by omega
        obtain ⟨x, hx⟩ : ∃ x, t[k]? = some x := ⟨t[k], by simp [hlt]⟩
        have cx := hc k x hx
        have HX : Hid (t[k]? = some x) := hx
        have hxu : (x.toNat : Int) ≤ 255 := by have := x.toNat_lt; omega
        have hx0 : 0 ≤ (x.toNat : Int) := by omega
        clear hx
        rcases nmC_cases x with ⟨hn0, hq⟩ | ⟨hn0, hq⟩
        · have HN : Hid (nmC x = true) := hn0
          clear hn0
          have rel : NmR t W (.int .i64 (((k + 1 : Nat)) : Int)) W := by
            refine ⟨k + 1, by omega, rfl, fun j y hj hy => ?_, rfl⟩
            by_cases e : j = k
            · subst e; rw [HX.out] at hy; cases hy; exact HN.out
            · exact HD.out j y (by omega) hy
          have HR : Hid (NmR t W (.int .i64 (((k + 1 : Nat)) : Int)) W) := rel
          clear rel hc
          rcases hq with hq | hq | hq
          all_goals
            go_wp2
            go_roundw
            case rel => exact HR.out
            case measure => simp [intOf]; omega
        · have HN : Hid (nmB t = false) := nm_no' HX.out hn0
          clear hn0 hc
          have hne : ((x.toNat : Int) != 45) = true := by rw [bne_iff_ne]; omega
          rcases hq with hq | hq | hq | hq
          all_goals
            go_wp2
            go_ret
            exact ⟨ret_b HN.out.symm, hb⟩
      · obtain rfl : k = t.length := by omega
        have HN : Hid (nmB t = true) := nm_yes h HD.out
        go_wp2
        go_ret
        exact ⟨ret_b HN.out.symm, hb⟩
  · rw [show rg (t.length : Int) 1 16 = false by unfold rg; rw [decide_eq_false_iff_not]; omega] at c0
    have HN : Hid (nmB t = false) := by unfold Hid nmB; rw [Bool.and_eq_false_iff]; left; rw [decide_eq_false_iff_not]; exact h
    go_enter Tryd.func35, Tryd.ntmps35
    go_wp2_with (go_at_call 63; (with_reducible refine (c0 _).mono ?_); rintro e w1 ⟨rfl, rfl⟩)
    go_ret
    exact ⟨ret_b HN.out.symm, Below.refl _ _⟩

set_option maxHeartbeats 4000000 in
theorem numbers_any (p : Pd) (sl : Value) (w : World) (hi : PdI p) :
    Calls Tryd.prog 36 #[planV p sl] w fun e w' => e = .returned (.bool (numB p)) ∧ Below w.heap.size w w' := by
  obtain ⟨nm, mn, mx, po, co, tl, bk, af, sh, uw, up, uc, ue, dw, dp, dc, de⟩ := p
  have HN : Hid (numB ⟨nm, mn, mx, po, co, tl, bk, af, sh, uw, up, uc, ue, dw, dp, dc, de⟩ = (rg mn 0 50 && (rg mx (max 1 mn) 50 && (rg po 1 100000 && (rg co 1 100000 && (rg tl 0 1000 && (rg bk 0 50 && (rg af 0 100 && rg sh (-900) 900)))))))) := rfl
  have c := fun n lo hi w => within_any n lo hi w
  clear hi
  go_enter Tryd.func36, Tryd.ntmps36
  go_wp2_with (go_at_call 63; (with_reducible refine (c _ _ _ _).mono ?_); rintro e w1 ⟨rfl, rfl⟩)
  all_goals
    go_ret
    clear c
    exact ⟨ret_b (by rw [HN.out]; simp [*]), (Below.refl _ _).alloc (Nat.le_refl _) _⟩
set_option maxHeartbeats 4000000 in
theorem pace_any (a b c d : Int) (w : World) :
    Calls Tryd.prog 37 #[.agg #[.int .i64 a, .int .i64 b, .int .i64 c, .int .i64 d]] w fun e w' => e = .returned (.bool (paceB a b c d)) ∧ Below w.heap.size w w' := by
  have HN : Hid (paceB a b c d = (rg a 0 100000 && (rg b 0 50 && (rg c 0 1000 && rg d 0 100000)))) := rfl
  have cw := fun n lo hi w => within_any n lo hi w
  go_enter Tryd.func37, Tryd.ntmps37
  go_wp2_with (go_at_call 63; (with_reducible refine (cw _ _ _ _).mono ?_); rintro e w1 ⟨rfl, rfl⟩)
  all_goals
    go_ret
    clear cw
    exact ⟨ret_b (by rw [HN.out]; simp [*]), (Below.refl _ _).alloc (Nat.le_refl _) _⟩
end Pln
end Go.Proofs.YtcfncgjpbdkagabDoor
