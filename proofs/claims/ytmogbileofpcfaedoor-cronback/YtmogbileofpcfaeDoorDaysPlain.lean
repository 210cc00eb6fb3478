/- The days of a month that fit, as a set. Plain mathematics. -/
import Derived.Test.YtmogbileofpcfaeDoorMinPlain
import Derived.Test.YtmogbileofpcfaeDoorCivilPlain
namespace Go.Proofs.YtmogbileofpcfaeDoor
namespace Crn
open Go.RowKit Cal

theorem in_one (d n : Int) (h : 0 ≤ d ∧ d ≤ 63) : inS (2 ^ d.toNat) n = decide (n = d) := by
  obtain ⟨D, rfl⟩ := Int.eq_ofNat_of_zero_le h.1
  by_cases hn : n < 0
  · rw [inS_neg _ _ hn]; symm; rw [decide_eq_false_iff_not]; omega
  obtain ⟨N, rfl⟩ := Int.eq_ofNat_of_zero_le (show 0 ≤ n by omega)
  rw [Int.toNat_natCast, show (2 : Int) ^ D = ((2 ^ D : Nat) : Int) by simp, inS_nat, Nat.testBit_two_pow]
  by_cases g : D = N
  · subst g; simp; omega
  · rw [decide_eq_false g, Bool.and_false]; symm; rw [decide_eq_false_iff_not]; omega
theorem u_wrap (x : Int) : 0 ≤ IntKind.u64.wrap x ∧ IntKind.u64.wrap x ≤ 18446744073709551615 := by rw [IntKind.wrap_u64]; omega
theorem u_div (a : Int) (k : Nat) (h : 0 ≤ a ∧ a ≤ 18446744073709551615) : 0 ≤ a / 2 ^ k ∧ a / 2 ^ k ≤ 18446744073709551615 := by
  obtain ⟨A, rfl⟩ := Int.eq_ofNat_of_zero_le h.1
  rw [show ((A : Int) / 2 ^ k) = ((A / 2 ^ k : Nat) : Int) by simp]
  have := Nat.div_le_self A (2 ^ k)
  generalize A / 2 ^ k = q at this
  omega

/-- k weeks of days of the week, one behind the other -/
def WkOK (we v : Int) (k : Nat) : Prop := (0 ≤ v ∧ v ≤ 18446744073709551615) ∧ ∀ n, inS v n = (decide (0 ≤ n ∧ n < 7 * (k : Int)) && inS we (n % 7))
theorem wk_zero (we : Int) : WkOK we 0 0 := by
  refine ⟨by omega, fun n => ?_⟩
  rw [decide_eq_false (by omega)]
  unfold inS; simp
theorem wk_step {we v : Int} {k : Nat} (h : WkOK we v k) (hw : Upto we 6) (hk : k < 6) : WkOK we (bits .or .u64 v (IntKind.u64.wrap (we * 2 ^ (7 * (k : Int)).toNat))) (k + 1) := by
  refine ⟨u_or _ _ h.1 (u_wrap _), fun n => ?_⟩
  rw [in_or _ _ _ h.1 (u_wrap _), in_shl we _ n hw.1 (by omega), h.2 n]
  by_cases g : 7 * (k : Int) ≤ n ∧ n < 7 * (k : Int) + 7
  · rw [decide_eq_false (by omega), decide_eq_true (by omega), decide_eq_true (by omega), show n - 7 * (k : Int) = n % 7 by omega]
    simp
  · have e : inS we (n - 7 * (k : Int)) = false := by
      by_cases g2 : n - 7 * (k : Int) < 0
      · exact inS_neg _ _ g2
      · cases g3 : inS we (n - 7 * (k : Int))
        · rfl
        · have := hw.2 _ g3; omega
    rw [e, Bool.and_false, Bool.or_false]
    rw [show decide (0 ≤ n ∧ n < 7 * ((k + 1 : Nat) : Int)) = decide (0 ≤ n ∧ n < 7 * (k : Int)) by rw [decide_eq_decide]; omega]

/-- the days from 1 to 31 of a month that begins first days from 1970 on of which the day of the week is in we -/
def WkD (we first v : Int) : Prop := (0 ≤ v ∧ v ≤ 18446744073709551615) ∧ ∀ n, inS v n = (decide (1 ≤ n ∧ n ≤ 31) && inS we ((first + n + 3) % 7))
theorem day_in (n : Int) : inS 4294967294 n = decide (1 ≤ n ∧ n ≤ 31) := by
  by_cases hn : n < 0
  · rw [inS_neg _ _ hn]; symm; rw [decide_eq_false_iff_not]; omega
  obtain ⟨N, rfl⟩ := Int.eq_ofNat_of_zero_le (show 0 ≤ n by omega)
  rw [(full_in N).2.2.1, decide_eq_decide]; omega
theorem wk_days {we v first : Int} (h : WkOK we v 6) : WkD we first (bits .and .u64 (IntKind.u64.wrap (v / 2 ^ ((first + 4) % 7).toNat * 2)) 4294967294) := by
  have u1 := u_wrap (v / 2 ^ ((first + 4) % 7).toNat * 2)
  refine ⟨u_and _ _ u1 (by omega), fun n => ?_⟩
  rw [in_and _ _ _ u1 (by omega), day_in]
  by_cases g : 1 ≤ n ∧ n ≤ 31
  · have e := in_shl (v / 2 ^ ((first + 4) % 7).toNat) 1 n (u_div v _ h.1) (by omega)
    rw [show (2 : Int) ^ (1 : Int).toNat = 2 from rfl] at e
    rw [e, decide_eq_true (show n ≤ 63 by omega), in_shr v _ _ h.1 (by omega) (by omega), h.2, decide_eq_true (by omega), decide_eq_true g,
      show (n - 1 + (first + 4) % 7) % 7 = (first + n + 3) % 7 by omega]
    simp
  · rw [decide_eq_false g, Bool.and_false, Bool.false_and]

/-- does a day fit, of which the number and the day of the week are told? -/
def fitd (da we : Int) (ad aw : Bool) (n k : Int) : Bool := (inS da n && inS we k) || ((!ad && !aw) && (inS da n || inS we k))
theorem dayB_eq (da mo we : Int) (ad aw : Bool) (m d k : Int) : dayB da mo we ad aw m d k = (inS mo m && fitd da we ad aw d k) := rfl

/-- the set of the days of a month that fit; how far the last days have been looked at -/
def DOK (y m v0 v d : Int) : Prop := (0 ≤ v ∧ v ≤ 18446744073709551615) ∧ ∀ n, inS v n = (inS v0 n && !decide (29 ≤ n ∧ n < d ∧ dim y m < n))
theorem dok_zero {y m v0 : Int} (h : 0 ≤ v0 ∧ v0 ≤ 18446744073709551615) : DOK y m v0 v0 29 := by
  refine ⟨h, fun n => ?_⟩
  rw [decide_eq_false (by omega)]; simp
theorem dok_keep {y m v0 v d : Int} (h : DOK y m v0 v d) (hd : d ≤ dim y m) : DOK y m v0 v (d + 1) := by
  refine ⟨h.1, fun n => ?_⟩
  rw [h.2 n, show decide (29 ≤ n ∧ n < d + 1 ∧ dim y m < n) = decide (29 ≤ n ∧ n < d ∧ dim y m < n) by rw [decide_eq_decide]; omega]
theorem dok_drop {y m v0 v d : Int} (h : DOK y m v0 v d) (h0 : 29 ≤ d ∧ d ≤ 31) (hd : dim y m < d) : DOK y m v0 (bits .andNot .u64 v (2 ^ d.toNat)) (d + 1) := by
  have u1 : 0 ≤ (2 : Int) ^ d.toNat ∧ (2 : Int) ^ d.toNat ≤ 18446744073709551615 := by
    have : d = 29 ∨ d = 30 ∨ d = 31 := by omega
    rcases this with rfl | rfl | rfl <;> decide
  refine ⟨u_andNot _ _ h.1 u1, fun n => ?_⟩
  rw [in_andNot _ _ _ h.1 u1, in_one d n (by omega), h.2 n]
  by_cases g : n = d
  · rw [decide_eq_true g, decide_eq_true (show 29 ≤ n ∧ n < d + 1 ∧ dim y m < n by omega)]; simp
  · rw [decide_eq_false g, show decide (29 ≤ n ∧ n < d + 1 ∧ dim y m < n) = decide (29 ≤ n ∧ n < d ∧ dim y m < n) by rw [decide_eq_decide]; omega]; simp

/-- the set that daysOf tells -/
def DaySet (da we : Int) (ad aw : Bool) (y m v : Int) : Prop :=
  (0 ≤ v ∧ v ≤ 18446744073709551615) ∧ ∀ n, inS v n = (decide (1 ≤ n ∧ n ≤ dim y m) && fitd da we ad aw n ((num y m 1 + n + 3) % 7))
theorem dset_or {da we y m v k : Int} (hda : 0 ≤ da ∧ da ≤ 18446744073709551615) (h31 : ∀ n, inS da n = true → 1 ≤ n ∧ n ≤ 31) (hk : WkD we (num y m 1) k) (h : DOK y m (bits .or .u64 da k) v 32) : DaySet da we false false y m v := by
  refine ⟨h.1, fun n => ?_⟩
  have db := dim_bd y m
  rw [h.2 n, in_or _ _ _ hda hk.1, hk.2 n]
  unfold fitd
  by_cases g : 1 ≤ n ∧ n ≤ 31
  · rw [decide_eq_true g, show decide (29 ≤ n ∧ n < 32 ∧ dim y m < n) = !decide (1 ≤ n ∧ n ≤ dim y m) by
      by_cases g2 : n ≤ dim y m
      · rw [decide_eq_true (show 1 ≤ n ∧ n ≤ dim y m by omega), decide_eq_false (by omega)]; rfl
      · rw [decide_eq_false (show ¬ (1 ≤ n ∧ n ≤ dim y m) by omega), decide_eq_true (by omega)]; rfl]
    generalize inS da n = a; generalize inS we _ = b; generalize decide (1 ≤ n ∧ n ≤ dim y m) = c
    revert a b c; decide
  · have e : inS da n = false := by
      cases e : inS da n
      · rfl
      · exact absurd (h31 n e) g
    rw [decide_eq_false g, e, decide_eq_false (show ¬ (1 ≤ n ∧ n ≤ dim y m) by omega)]; simp
theorem dset_and {da we y m v k : Int} {ad aw : Bool} (hda : 0 ≤ da ∧ da ≤ 18446744073709551615) (hany : (!ad && !aw) = false) (hk : WkD we (num y m 1) k) (h : DOK y m (bits .and .u64 da k) v 32) : DaySet da we ad aw y m v := by
  refine ⟨h.1, fun n => ?_⟩
  have db := dim_bd y m
  rw [h.2 n, in_and _ _ _ hda hk.1, hk.2 n]
  unfold fitd
  rw [hany]
  by_cases g : 1 ≤ n ∧ n ≤ 31
  · rw [decide_eq_true g, show decide (29 ≤ n ∧ n < 32 ∧ dim y m < n) = !decide (1 ≤ n ∧ n ≤ dim y m) by
      by_cases g2 : n ≤ dim y m
      · rw [decide_eq_true (show 1 ≤ n ∧ n ≤ dim y m by omega), decide_eq_false (by omega)]; rfl
      · rw [decide_eq_false (show ¬ (1 ≤ n ∧ n ≤ dim y m) by omega), decide_eq_true (by omega)]; rfl]
    generalize inS da n = a; generalize inS we _ = b; generalize decide (1 ≤ n ∧ n ≤ dim y m) = c
    revert a b c; decide
  · rw [decide_eq_false g, decide_eq_false (show ¬ (1 ≤ n ∧ n ≤ dim y m) by omega)]; simp
theorem tm7 (a : Int) : a.tmod 7 = if 0 ≤ a then a % 7 else -((-a) % 7) := by
  split
  · rename_i h; exact Int.tmod_eq_emod_of_nonneg h
  · rename_i h
    have := Int.neg_tmod (-a) 7
    rw [Int.neg_neg] at this
    rw [this, Int.tmod_eq_emod_of_nonneg (show 0 ≤ -a by omega)]
theorem rem7 (a : Int) : ((a.tmod 7) + 7).tmod 7 = a % 7 := by
  rw [tm7 a, tm7]
  split <;> split <;> omega
theorem rem7_bd (a : Int) : -6 ≤ a.tmod 7 ∧ a.tmod 7 ≤ 6 := by rw [tm7]; split <;> omega
end Crn
end Go.Proofs.YtmogbileofpcfaeDoor
