/- Plain mathematics of dates: leap years, months, days ahead of a year, and that a day has one date. No program in sight. -/
import Derived.WalkKit
namespace Go.Proofs.YtcaobnmfgnbolabDoor
namespace Cal

def lpB (y : Int) : Bool := decide (y % 4 = 0 ∧ (y % 100 ≠ 0 ∨ y % 400 = 0))
def lp (y : Int) : Int := if y % 4 = 0 ∧ (y % 100 ≠ 0 ∨ y % 400 = 0) then 1 else 0
def dim (y m : Int) : Int := if m = 2 then 28 + lp y else if m = 4 ∨ m = 6 ∨ m = 9 ∨ m = 11 then 30 else 31
/-- days of the months ahead of m -/
def cum (y m : Int) : Int :=
  if m ≤ 1 then 0 else if m = 2 then 31 else lp y +
    (if m = 3 then 59 else if m = 4 then 90 else if m = 5 then 120 else if m = 6 then 151 else if m = 7 then 181
     else if m = 8 then 212 else if m = 9 then 243 else if m = 10 then 273 else if m = 11 then 304 else if m = 12 then 334 else 365)
/-- days from the beginning of -4000 to that of y -/
def ys (y : Int) : Int := 365 * (y + 4000) + (y + 4003) / 4 - (y + 4099) / 100 + (y + 4399) / 400
def num (y m d : Int) : Int := ys y + cum y m + d - 1 - 2180498
def vldB (y m d : Int) : Bool := decide (-4000 ≤ y ∧ y ≤ 8000 ∧ 1 ≤ m ∧ m ≤ 12 ∧ 1 ≤ d ∧ d ≤ dim y m)

theorem lpB_lp (y : Int) : lp y = if lpB y = true then 1 else 0 := by unfold lp lpB; simp
theorem lp_01 (y : Int) : 0 ≤ lp y ∧ lp y ≤ 1 := by unfold lp; split <;> omega
theorem dim_bd (y m : Int) : 28 ≤ dim y m ∧ dim y m ≤ 31 := by
  have := lp_01 y
  unfold dim; repeat' split
  all_goals omega
theorem cum_one (y : Int) : cum y 1 = 0 := by simp [cum]
theorem cum_last (y : Int) : cum y 13 = 365 + lp y := by simp [cum]; omega
theorem cum_succ (y m : Int) (h1 : 1 ≤ m) (h2 : m ≤ 12) : cum y (m + 1) = cum y m + dim y m := by
  have : m = 1 ∨ m = 2 ∨ m = 3 ∨ m = 4 ∨ m = 5 ∨ m = 6 ∨ m = 7 ∨ m = 8 ∨ m = 9 ∨ m = 10 ∨ m = 11 ∨ m = 12 := by omega
  rcases this with rfl | rfl | rfl | rfl | rfl | rfl | rfl | rfl | rfl | rfl | rfl | rfl <;> simp [cum, dim] <;> omega
theorem cum_bd (y m : Int) : 0 ≤ cum y m ∧ cum y m ≤ 366 := by
  have := lp_01 y
  unfold cum; repeat' split
  all_goals omega
theorem cum_mono (y a b : Int) (h1 : 1 ≤ a) (h : a < b) (h2 : b ≤ 13) : cum y a + dim y a ≤ cum y b := by
  have hl := lp_01 y
  have ha := cum_succ y a h1 (by omega)
  rw [← ha]
  unfold cum; repeat' split
  all_goals omega
theorem ys_succ (y : Int) : ys (y + 1) = ys y + 365 + lp y := by
  unfold ys lp; split <;> omega
theorem ys_mono (a b : Int) (h : a ≤ b) : ys a ≤ ys b := by unfold ys; omega
theorem ys_bd (y : Int) (h1 : -4000 ≤ y) (h2 : y ≤ 9000) : 0 ≤ ys y ∧ ys y ≤ 4800000 := by unfold ys; omega
theorem ys_1970 : ys 1970 = 2180498 := by decide
theorem ys_first : ys (-4000) = 0 := by decide

theorem vld_iff (y m d : Int) : vldB y m d = true ↔ (-4000 ≤ y ∧ y ≤ 8000 ∧ 1 ≤ m ∧ m ≤ 12 ∧ 1 ≤ d ∧ d ≤ dim y m) := by unfold vldB; simp
theorem vld_mk {y m d : Int} (h : -4000 ≤ y ∧ y ≤ 8000 ∧ 1 ≤ m ∧ m ≤ 12 ∧ 1 ≤ d ∧ d ≤ dim y m) : vldB y m d = true := (vld_iff _ _ _).2 h

/-- the last day of a date lies within its year -/
theorem in_year (y m d : Int) (h : 1 ≤ m ∧ m ≤ 12 ∧ 1 ≤ d ∧ d ≤ dim y m) : 0 ≤ cum y m + d - 1 ∧ cum y m + d - 1 < 365 + lp y := by
  have h1 := cum_bd y m
  have h2 := cum_mono y m 13 h.1 (by omega) (by omega)
  rw [cum_last] at h2
  omega

theorem date_one {y m d y' m' d' : Int} (h : 1 ≤ m ∧ m ≤ 12 ∧ 1 ≤ d ∧ d ≤ dim y m) (h' : 1 ≤ m' ∧ m' ≤ 12 ∧ 1 ≤ d' ∧ d' ≤ dim y' m')
    (e : ys y + cum y m + d = ys y' + cum y' m' + d') : y = y' ∧ m = m' ∧ d = d' := by
  have i1 := in_year y m d h
  have i2 := in_year y' m' d' h'
  have s1 := ys_succ y
  have s2 := ys_succ y'
  have hy : y = y' := by
    by_cases c : y < y'
    · have := ys_mono (y + 1) y' (by omega); omega
    · by_cases c' : y' < y
      · have := ys_mono (y' + 1) y (by omega); omega
      · omega
  subst hy
  have hm : m = m' := by
    by_cases c : m < m'
    · have := cum_mono y m m' h.1 c (by omega); omega
    · by_cases c' : m' < m
      · have := cum_mono y m' m h'.1 c' (by omega); omega
      · omega
  subst hm
  exact ⟨rfl, rfl, by omega⟩

theorem year_one {y y' n : Int} (h : ys y ≤ n) (g : n < ys (y + 1)) (h' : ys y' ≤ n) (g' : n < ys (y' + 1)) : y = y' := by
  by_cases c : y < y'
  · have := ys_mono (y + 1) y' (by omega); omega
  · by_cases c' : y' < y
    · have := ys_mono (y' + 1) y (by omega); omega
    · omega

/-- the first guess of a year is off by one at the most -/
theorem guess_low (n : Int) : ys (-4000 + n * 400 / 146097 - 1) ≤ n := by unfold ys; omega
theorem guess_high (n : Int) : n < ys (-4000 + n * 400 / 146097 + 1 + 1) := by unfold ys; omega

theorem num_bd (y m d : Int) (h : vldB y m d = true) : -2180498 ≤ num y m d ∧ num y m d ≤ 2202777 := by
  obtain ⟨h1, h2, h3, h4, h5, h6⟩ := (vld_iff _ _ _).1 h
  have i1 := in_year y m d ⟨h3, h4, h5, h6⟩
  have a := ys_mono (-4000) y h1
  have b := ys_mono (y + 1) 8001 (by omega)
  have c := ys_succ y
  have e1 : ys (-4000) = 0 := by decide
  have e2 : ys 8001 = 4383276 := by decide
  unfold num
  omega

/-- the date that is n days behind the beginning of -4000 -/
def yr (n : Int) : Int :=
  if n < ys (-4000 + n * 400 / 146097) then -4000 + n * 400 / 146097 - 1
  else if ys (-4000 + n * 400 / 146097 + 1) ≤ n then -4000 + n * 400 / 146097 + 1 else -4000 + n * 400 / 146097
def moR (l r : Int) : Int :=
  if r < 31 then 1 else if r < 59 + l then 2 else if r < 90 + l then 3 else if r < 120 + l then 4 else if r < 151 + l then 5
  else if r < 181 + l then 6 else if r < 212 + l then 7 else if r < 243 + l then 8 else if r < 273 + l then 9
  else if r < 304 + l then 10 else if r < 334 + l then 11 else 12
def mo (n : Int) : Int := moR (lp (yr n)) (n - ys (yr n))
def dy (n : Int) : Int := n - ys (yr n) - cum (yr n) (mo n) + 1

theorem yr_spec (n : Int) : ys (yr n) ≤ n ∧ n < ys (yr n + 1) := by
  have h1 := guess_low n
  have h2 := guess_high n
  unfold yr; split
  · rename_i c
    rw [show -4000 + n * 400 / 146097 - 1 + 1 = -4000 + n * 400 / 146097 by omega]; exact ⟨h1, c⟩
  · split
    · rename_i c; exact ⟨c, h2⟩
    · exact ⟨by omega, by omega⟩
theorem mo_spec (y r : Int) (h1 : 0 ≤ r) (h2 : r < 365 + lp y) : 1 ≤ moR (lp y) r ∧ moR (lp y) r ≤ 12 ∧ cum y (moR (lp y) r) ≤ r ∧ r < cum y (moR (lp y) r) + dim y (moR (lp y) r) := by
  have hl := lp_01 y
  unfold moR; repeat' split
  all_goals simp [cum, dim]
  all_goals omega
theorem date_spec (n : Int) : 1 ≤ mo n ∧ mo n ≤ 12 ∧ 1 ≤ dy n ∧ dy n ≤ dim (yr n) (mo n) ∧ ys (yr n) + cum (yr n) (mo n) + dy n - 1 = n := by
  have h := yr_spec n
  rw [ys_succ] at h
  have m := mo_spec (yr n) (n - ys (yr n)) (by omega) (by omega)
  have e : mo n = moR (lp (yr n)) (n - ys (yr n)) := rfl
  rw [← e] at m
  refine ⟨m.1, m.2.1, ?_, ?_, ?_⟩
  all_goals (unfold dy; omega)
theorem date_is {n y m d : Int} (h : 1 ≤ m ∧ m ≤ 12 ∧ 1 ≤ d ∧ d ≤ dim y m) (e : ys y + cum y m + d - 1 = n) : yr n = y ∧ mo n = m ∧ dy n = d := by
  have s := date_spec n
  exact date_one ⟨s.1, s.2.1, s.2.2.1, s.2.2.2.1⟩ h (by omega)
theorem yr_bd (n : Int) (h1 : 0 ≤ n) (h2 : n ≤ 4000000) : -4000 ≤ yr n ∧ yr n ≤ 7000 := by
  have s := yr_spec n
  have a : -4000 ≤ yr n := by
    by_cases c : yr n < -4000
    · have := ys_mono (yr n + 1) (-4000) (by omega)
      have z := ys_first
      omega
    · omega
  refine ⟨a, ?_⟩
  by_cases c : 7000 < yr n
  · have := ys_mono 7001 (yr n) (by omega)
    have z : ys 7001 = 4018033 := by decide
    omega
  · omega
end Cal
end Go.Proofs.YtcaobnmfgnbolabDoor
