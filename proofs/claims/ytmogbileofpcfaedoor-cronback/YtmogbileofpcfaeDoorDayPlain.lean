/- The first day behind, the last day ahead of one, that fits: month by month. Plain mathematics. -/
import Derived.Test.YtmogbileofpcfaeDoorDaysPlain
namespace Go.Proofs.YtmogbileofpcfaeDoor
namespace Crn
open Go.RowKit Cal

/-- does the day that is x days behind the beginning of -4000 fit? -/
def fitN (da mn we : Int) (ad aw : Bool) (x : Int) : Bool := dayB da mn we ad aw (Cal.mo x) (dy x) ((x + 6) % 7)
/-- the day ahead of which a month begins -/
def beg (y m : Int) : Int := ys y + cum y m

theorem num_beg (y m d : Int) : num y m d = beg y m + d - 1 - 2180498 := by unfold num beg; omega
theorem fit_in {da mn we : Int} {ad aw : Bool} {y m v x : Int} (hm : 1 ≤ m ∧ m ≤ 12) (hv : DaySet da we ad aw y m v) (h1 : beg y m ≤ x) (h2 : x < beg y m + dim y m) :
    fitN da mn we ad aw x = (inS mn m && inS v (x - beg y m + 1)) := by
  obtain ⟨_, e2, e3⟩ := date_is (n := x) (y := y) (m := m) (d := x - beg y m + 1) ⟨hm.1, hm.2, by omega, by omega⟩ (by unfold beg; omega)
  unfold fitN
  rw [e2, e3, dayB_eq, hv.2, decide_eq_true (by omega), Bool.true_and, num_beg, show (beg y m + 1 - 1 - 2180498 + (x - beg y m + 1) + 3) % 7 = (x + 6) % 7 by omega]
theorem fit_no {da mn we : Int} {ad aw : Bool} {y m x : Int} (hm : 1 ≤ m ∧ m ≤ 12) (hn : inS mn m = false) (h1 : beg y m ≤ x) (h2 : x < beg y m + dim y m) :
    fitN da mn we ad aw x = false := by
  obtain ⟨_, e2, e3⟩ := date_is (n := x) (y := y) (m := m) (d := x - beg y m + 1) ⟨hm.1, hm.2, by omega, by omega⟩ (by unfold beg; omega)
  unfold fitN
  rw [e2, dayB_eq, hn, Bool.false_and]
theorem beg_next (y m : Int) (h : 1 ≤ m ∧ m ≤ 11) : beg y (m + 1) = beg y m + dim y m := by
  unfold beg; rw [cum_succ y m h.1 (by omega)]; omega
theorem beg_year (y : Int) : beg (y + 1) 1 = beg y 12 + dim y 12 := by
  unfold beg
  have := cum_succ y 12 (by omega) (by omega)
  rw [show (12 : Int) + 1 = 13 by omega, cum_last] at this
  rw [cum_one, ys_succ]; omega
theorem beg_ge (y m : Int) : ys y ≤ beg y m := by unfold beg; have := cum_bd y m; omega
theorem beg_le (y m : Int) (h : 1 ≤ m ∧ m ≤ 12) : beg y m < ys (y + 1) := by
  unfold beg
  have := in_year y m 1 ⟨h.1, h.2, by omega, by have := dim_bd y m; omega⟩
  rw [ys_succ]; omega
theorem ys_ten (y : Int) : ys (y + 1) + 3285 ≤ ys (y + 10) := by unfold ys; omega
theorem ys_nine (y : Int) : ys (y - 9) + 3285 ≤ ys y := by unfold ys; omega

/-- between D and P nothing fits -/
def Seen (da mn we : Int) (ad aw : Bool) (D P : Int) : Prop := ∀ x, D < x → x < P → fitN da mn we ad aw x = false
/-- what dayBehind tells -/
def Behind (da mn we : Int) (ad aw : Bool) (D n : Int) (ok : Bool) : Prop :=
  (-5000000 ≤ n ∧ n ≤ 5000000) ∧
  (ok = true → D < n + 2180498 ∧ n + 2180498 ≤ D + 3000 ∧ fitN da mn we ad aw (n + 2180498) = true ∧ Seen da mn we ad aw D (n + 2180498)) ∧
  (ok = false → Seen da mn we ad aw D (D + 3001))
/-- what dayAhead tells -/
def Ahead (da mn we : Int) (ad aw : Bool) (D n : Int) (ok : Bool) : Prop :=
  (-5000000 ≤ n ∧ n ≤ 5000000) ∧
  (ok = true → D - 3000 ≤ n + 2180498 ∧ n + 2180498 < D ∧ fitN da mn we ad aw (n + 2180498) = true ∧ Seen da mn we ad aw (n + 2180498) D) ∧
  (ok = false → Seen da mn we ad aw (D - 3001) D)

section
variable {da mn we : Int} {ad aw : Bool} {y m d v D : Int}
theorem seen_month (hs : Seen da mn we ad aw D (beg y m + d - 1)) (hm : 1 ≤ m ∧ m ≤ 12) (hd : 1 ≤ d) (hv : DaySet da we ad aw y m v) (hn : frmB v d = false) : Seen da mn we ad aw D (beg y m + dim y m) := by
  intro x h1 h2
  by_cases g : x < beg y m + d - 1
  · exact hs x h1 g
  · rw [fit_in hm hv (by omega) h2, frm_no v d hv.1 (by omega) hn _ (by omega), Bool.and_false]
theorem seen_skip (hs : Seen da mn we ad aw D (beg y m + d - 1)) (hm : 1 ≤ m ∧ m ≤ 12) (hd : 1 ≤ d) (hn : inS mn m = false) : Seen da mn we ad aw D (beg y m + dim y m) := by
  intro x h1 h2
  by_cases g : x < beg y m + d - 1
  · exact hs x h1 g
  · exact fit_no hm hn (by omega) h2
theorem found (hs : Seen da mn we ad aw D (beg y m + d - 1)) (hm : 1 ≤ m ∧ m ≤ 12) (hy : -4000 ≤ y ∧ y ≤ 8000) (hd : 1 ≤ d) (hD : D < beg y m + d - 1) (hv : DaySet da we ad aw y m v) (hf : frmB v d = true) (hi : inS mn m = true) :
    Behind da mn we ad aw D (num y m 1 - 1 + frm v d) (decide (num y m 1 - 1 + frm v d ≤ D - 2180498 + 3000)) := by
  obtain ⟨a1, a2, a3, a4⟩ := frm_yes v d hv.1 (by omega) hf
  have a5 : frm v d ≤ dim y m := by
    have := hv.2 (frm v d)
    rw [a3] at this
    have := (Bool.and_eq_true _ _ ▸ this.symm : decide (1 ≤ frm v d ∧ frm v d ≤ dim y m) = true ∧ _).1
    rw [decide_eq_true_eq] at this; omega
  have yb := ys_bd y hy.1 (by omega)
  have cb := cum_bd y m
  have db := dim_bd y m
  have e := num_beg y m 1
  have hb : beg y m = ys y + cum y m := rfl
  have hsee : Seen da mn we ad aw D (num y m 1 - 1 + frm v d + 2180498) := by
    intro x h1 h2
    by_cases g : x < beg y m + d - 1
    · exact hs x h1 g
    · rw [fit_in hm hv (by omega) (by omega), a4 _ (by omega) (by omega), Bool.and_false]
  refine ⟨by omega, fun ho => ?_, fun ho => ?_⟩
  · rw [decide_eq_true_eq] at ho
    refine ⟨by omega, by omega, ?_, hsee⟩
    rw [fit_in hm hv (by omega) (by omega), hi, show num y m 1 - 1 + frm v d + 2180498 - beg y m + 1 = frm v d by omega, a3]; rfl
  · rw [decide_eq_false_iff_not] at ho
    intro x h1 h2
    exact hsee x h1 (by omega)
theorem ended (hs : Seen da mn we ad aw D (beg y m + d - 1)) (hy : -4000 ≤ y ∧ y ≤ 8000) (hd : 1 ≤ d) (hl : D - 2180498 + 3000 ≤ num y m 1 - 1) (hv : 0 ≤ v ∧ v ≤ 18446744073709551615) :
    Behind da mn we ad aw D (num y m 1 - 1 + frm v d) false := by
  have yb := ys_bd y hy.1 (by omega)
  have cb := cum_bd y m
  have e := num_beg y m 1
  have hb : beg y m = ys y + cum y m := rfl
  have f := frm_bd v d hv (by omega)
  refine ⟨by omega, fun ho => (by cases ho), fun _ => ?_⟩
  intro x h1 h2
  exact hs x h1 (by omega)

/-- the last day of a month that is looked at, d being told -/
def Lim (y m d q : Int) : Prop := (d ≤ dim y m ∧ q = d) ∨ (dim y m ≤ d ∧ q = dim y m)
theorem aseen_month {q : Int} (hs : Seen da mn we ad aw (beg y m + q - 1) D) (hq : Lim y m d q) (hm : 1 ≤ m ∧ m ≤ 12) (hd : 0 ≤ d) (hv : DaySet da we ad aw y m v) (hn : uptB v d = false) : Seen da mn we ad aw (beg y m - 1) D := by
  intro x h1 h2
  unfold Lim at hq
  by_cases g : beg y m + q - 1 < x
  · exact hs x g h2
  · rw [fit_in hm hv (by omega) (by omega), upt_no v d hv.1 (by omega) hn _ (by omega), Bool.and_false]
theorem aseen_skip {q : Int} (hs : Seen da mn we ad aw (beg y m + q - 1) D) (hq : Lim y m d q) (hm : 1 ≤ m ∧ m ≤ 12) (hn : inS mn m = false) : Seen da mn we ad aw (beg y m - 1) D := by
  intro x h1 h2
  unfold Lim at hq
  by_cases g : beg y m + q - 1 < x
  · exact hs x g h2
  · exact fit_no (y := y) hm hn (by omega) (by omega)
theorem afound {q : Int} (hs : Seen da mn we ad aw (beg y m + q - 1) D) (hq : Lim y m d q) (hm : 1 ≤ m ∧ m ≤ 12) (hy : -4000 ≤ y ∧ y ≤ 8000) (hd : 0 ≤ d) (hD : beg y m + q - 1 < D) (hv : DaySet da we ad aw y m v) (hf : uptB v d = true) (hi : inS mn m = true) :
    Ahead da mn we ad aw D (num y m 1 - 1 + upt v d) (decide (D - 2180498 - 3000 ≤ num y m 1 - 1 + upt v d)) := by
  obtain ⟨a0, a1, a2, a3, a4⟩ := upt_yes v d hv.1 (by omega) hf
  have a5 : 1 ≤ upt v d ∧ upt v d ≤ dim y m := by
    have := hv.2 (upt v d)
    rw [a3] at this
    have := (Bool.and_eq_true _ _ ▸ this.symm : decide (1 ≤ upt v d ∧ upt v d ≤ dim y m) = true ∧ _).1
    rw [decide_eq_true_eq] at this; exact this
  have yb := ys_bd y hy.1 (by omega)
  have cb := cum_bd y m
  have db := dim_bd y m
  have e := num_beg y m 1
  have hb : beg y m = ys y + cum y m := rfl
  unfold Lim at hq
  have hsee : Seen da mn we ad aw (num y m 1 - 1 + upt v d + 2180498) D := by
    intro x h1 h2
    by_cases g : beg y m + q - 1 < x
    · exact hs x g h2
    · rw [fit_in hm hv (by omega) (by omega), a4 _ (by omega) (by omega), Bool.and_false]
  refine ⟨by omega, fun ho => ?_, fun ho => ?_⟩
  · rw [decide_eq_true_eq] at ho
    refine ⟨by omega, by omega, ?_, hsee⟩
    rw [fit_in hm hv (by omega) (by omega), hi, show num y m 1 - 1 + upt v d + 2180498 - beg y m + 1 = upt v d by omega, a3]; rfl
  · rw [decide_eq_false_iff_not] at ho
    intro x h1 h2
    exact hsee x (by omega) h2
theorem aended (hs : Seen da mn we ad aw (beg y m - 1) D) (hy : -4000 ≤ y ∧ y ≤ 8000) (hl : num y m 1 - 1 < D - 2180498 - 3000) (hf : uptB v d = false) :
    Ahead da mn we ad aw D (num y m 1 - 1 + upt v d) false := by
  have yb := ys_bd y hy.1 (by omega)
  have cb := cum_bd y m
  have e := num_beg y m 1
  have hb : beg y m = ys y + cum y m := rfl
  have f := upt_zero v d hf
  refine ⟨by omega, fun ho => (by cases ho), fun _ => ?_⟩
  intro x h1 h2
  exact hs x (by omega) h2
end
end Crn
end Go.Proofs.YtmogbileofpcfaeDoor
