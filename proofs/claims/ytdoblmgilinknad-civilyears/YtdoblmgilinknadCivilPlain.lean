/- Plain mathematics of dates: leap years, months, days ahead of a year, and that a day has one date. No program in sight. -/
import Derived.WalkKit
namespace Go.Proofs.Ytdoblmgilinknad
namespace Cal

def lpB (y : Int) : Bool := decide (y % 4 = 0 ∧ (y % 100 ≠ 0 ∨ y % 400 = 0))
def lp (y : Int) : Int := if y % 4 = 0 ∧ (y % 100 ≠ 0 ∨ y % 400 = 0) then 1 else 0
def dim (y m : Int) : Int := if m = 2 then 28 + lp y else if m = 4 ∨ m = 6 ∨ m = 9 ∨ m = 11 then 30 else 31
/-- days of the months ahead of m -/
def cum (y m : Int) : Int :=
  if m ≤ 1 then 0 else if m = 2 then 31 else lp y +
    (if m = 3 then 59 else if m = 4 then 90 else if m = 5 then 120 else if m = 6 then 151 else if m = 7 then 181
     else if m = 8 then 212 else if m = 9 then 243 else if m = 10 then 273 else if m = 11 then 304 else if m = 12 then 334 else 365)
/-- days from the beginning of -4000 to that of y -/
def ys (y : Int) : Int := 365 * (y + 4000) + (y + 4003) / 4 - (y + 4099) / 100 + (y + 4399) / 400
def num (y m d : Int) : Int := ys y + cum y m + d - 1 - 2180498
def vldB (y m d : Int) : Bool := decide (-4000 ≤ y ∧ y ≤ 8000 ∧ 1 ≤ m ∧ m ≤ 12 ∧ 1 ≤ d ∧ d ≤ dim y m)

theorem lpB_lp (y : Int) : lp y = if lpB y = true then 1 else 0 := by unfold lp lpB; simp
theorem lp_01 (y : Int) : 0 ≤ lp y ∧ lp y ≤ 1 := by unfold lp; split <;> omega
theorem dim_bd (y m : Int) : 28 ≤ dim y m ∧ dim y m ≤ 31 := by
  have := lp_01 y
  unfold dim; repeat' split
  all_goals omega
theorem cum_one (y : Int) : cum y 1 = 0 := by simp [cum]
theorem cum_last (y : Int) : cum y 13 = 365 + lp y := by simp [cum]; omega
theorem cum_succ (y m : Int) (h1 : 1 ≤ m) (h2 : m ≤ 12) : cum y (m + 1) = cum y m + dim y m := by
  have : m = 1 ∨ m = 2 ∨ m = 3 ∨ m = 4 ∨ m = 5 ∨ m = 6 ∨ m = 7 ∨ m = 8 ∨ m = 9 ∨ m = 10 ∨ m = 11 ∨ m = 12 := by omega
  rcases this with rfl | rfl | rfl | rfl | rfl | rfl | rfl | rfl | rfl | rfl | rfl | rfl <;> simp [cum, dim] <;> omega
theorem cum_bd (y m : Int) : 0 ≤ cum y m ∧ cum y m ≤ 366 := by
  have := lp_01 y
  unfold cum; repeat' split
  all_goals omega
theorem cum_mono (y a b : Int) (h1 : 1 ≤ a) (h : a < b) (h2 : b ≤ 13) : cum y a + dim y a ≤ cum y b := by
  have hl := lp_01 y
  have ha := cum_succ y a h1 (by omega)
  rw [← ha]
  unfold cum; repeat' split
  all_goals omega
theorem ys_succ (y : Int) : ys (y + 1) = ys y + 365 + lp y := by
  unfold ys lp; split <;> omega
theorem ys_mono (a b : Int) (h : a ≤ b) : ys a ≤ ys b := by unfold ys; omega
theorem ys_bd (y : Int) (h1 : -4000 ≤ y) (h2 : y ≤ 9000) : 0 ≤ ys y ∧ ys y ≤ 4800000 := by unfold ys; omega
theorem ys_1970 : ys 1970 = 2180498 := by decide
theorem ys_first : ys (-4000) = 0 := by decide

theorem vld_iff (y m d : Int) : vldB y m d = true ↔ (-4000 ≤ y ∧ y ≤ 8000 ∧ 1 ≤ m ∧ m ≤ 12 ∧ 1 ≤ d ∧ d ≤ dim y m) := by unfold vldB; simp
theorem vld_mk {y m d : Int} (h : -4000 ≤ y ∧ y ≤ 8000 ∧ 1 ≤ m ∧ m ≤ 12 ∧ 1 ≤ d ∧ d ≤ dim y m) : vldB y m d = true := (vld_iff _ _ _).2 h

/-- the last day of a date lies within its year -/
theorem in_year (y m d : Int) (h : 1 ≤ m ∧ m ≤ 12 ∧ 1 ≤ d ∧ d ≤ dim y m) : 0 ≤ cum y m + d - 1 ∧ cum y m + d - 1 < 365 + lp y := by
  have h1 := cum_bd y m
  have h2 := cum_mono y m 13 h.1 (by omega) (by omega)
  rw [cum_last] at h2
  omega

theorem date_one {y m d y' m' d' : Int} (h : 1 ≤ m ∧ m ≤ 12 ∧ 1 ≤ d ∧ d ≤ dim y m) (h' : 1 ≤ m' ∧ m' ≤ 12 ∧ 1 ≤ d' ∧ d' ≤ dim y' m')
    (e : ys y + cum y m + d = ys y' + cum y' m' + d') : y = y' ∧ m = m' ∧ d = d' := by
  have i1 := in_year y m d h
  have i2 := in_year y' m' d' h'
  have s1 := ys_succ y
  have s2 := ys_succ y'
  have hy : y = y' := by
    by_cases c : y < y'
    · have := ys_mono (y + 1) y' (by omega); omega
    · by_cases c' : y' < y
      · have := ys_mono (y' + 1) y (by omega); omega
      · omega
  subst hy
  have hm : m = m' := by
    by_cases c : m < m'
    · have := cum_mono y m m' h.1 c (by omega); omega
    · by_cases c' : m' < m
      · have := cum_mono y m' m h'.1 c' (by omega); omega
      · omega
  subst hm
  exact ⟨rfl, rfl, by omega⟩

theorem year_one {y y' n : Int} (h : ys y ≤ n) (g : n < ys (y + 1)) (h' : ys y' ≤ n) (g' : n < ys (y' + 1)) : y = y' := by
  by_cases c : y < y'
  · have := ys_mono (y + 1) y' (by omega); omega
  · by_cases c' : y' < y
    · have := ys_mono (y' + 1) y (by omega); omega
    · omega

/-- the first guess of a year is off by one at the most -/
theorem guess_low (n : Int) : ys (-4000 + n * 400 / 146097 - 1) ≤ n := by unfold ys; omega
theorem guess_high (n : Int) : n < ys (-4000 + n * 400 / 146097 + 1 + 1) := by unfold ys; omega

theorem num_bd (y m d : Int) (h : vldB y m d = true) : -2180498 ≤ num y m d ∧ num y m d ≤ 2202777 := by
  obtain ⟨h1, h2, h3, h4, h5, h6⟩ := (vld_iff _ _ _).1 h
  have i1 := in_year y m d ⟨h3, h4, h5, h6⟩
  have a := ys_mono (-4000) y h1
  have b := ys_mono (y + 1) 8001 (by omega)
  have c := ys_succ y
  have e1 : ys (-4000) = 0 := by decide
  have e2 : ys 8001 = 4383276 := by decide
  unfold num
  omega
end Cal
end Go.Proofs.Ytdoblmgilinknad
