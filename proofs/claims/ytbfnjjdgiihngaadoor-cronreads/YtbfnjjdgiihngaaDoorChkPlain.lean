/- When Check lets a set by, number by number. Plain mathematics. -/
import Derived.Test.YtbfnjjdgiihngaaDoorMinPlain
namespace Go.Proofs.YtbfnjjdgiihngaaDoor
namespace Crn
open Go.RowKit

theorem inS_zero (n : Int) : inS 0 n = false := by unfold inS; simp
theorem u_ext (a b : Int) (ha : 0 ≤ a ∧ a ≤ 18446744073709551615) (hb : 0 ≤ b ∧ b ≤ 18446744073709551615) (h : ∀ n, inS a n = inS b n) : a = b := by
  obtain ⟨A, rfl⟩ := Int.eq_ofNat_of_zero_le ha.1
  obtain ⟨B, rfl⟩ := Int.eq_ofNat_of_zero_le hb.1
  congr 1
  apply Nat.eq_of_testBit_eq
  intro i
  by_cases g : i ≤ 63
  · have := h (i : Int)
    rwa [inS_nat, inS_nat, decide_eq_true g, Bool.true_and, Bool.true_and] at this
  · rw [Nat.testBit_lt_two_pow (show A < 2 ^ i from Nat.lt_of_lt_of_le (show A < 2 ^ 64 by omega) (Nat.pow_le_pow_right (by omega) (by omega))), Nat.testBit_lt_two_pow (show B < 2 ^ i from Nat.lt_of_lt_of_le (show B < 2 ^ 64 by omega) (Nat.pow_le_pow_right (by omega) (by omega)))]

/-- what one round over the numbers up to k has found -/
structure Scan (S lo hi : Int) (k : Int) (some all : Bool) : Prop where
  s1 : some = true → ∃ j, inS S j = true
  s2 : some = false → ∀ j, 0 ≤ j → j < k → inS S j = false
  a1 : all = true → ∀ j, 0 ≤ j → j < k → lo ≤ j → j ≤ hi → inS S j = true
  a2 : all = false → ∃ j, lo ≤ j ∧ j ≤ hi ∧ inS S j = false
  o : ∀ j, 0 ≤ j → j < k → inS S j = true → lo ≤ j ∧ j ≤ hi
theorem scan_0 (S lo hi : Int) : Scan S lo hi 0 false true :=
  ⟨fun h => (by cases h), fun _ j h1 h2 => (by omega), fun _ j h1 h2 => (by omega), fun h => (by cases h), fun j h1 h2 => (by omega)⟩
theorem scan_step {S lo hi k : Int} {u v x y : Bool} (h : Scan S lo hi k u v) (hx : inS S k = x) (hy : decide (lo ≤ k ∧ k ≤ hi) = y) (hxy : (x && !y) = false) : Scan S lo hi (k + 1) (u || x) (v && (x || !y)) := by
  refine ⟨fun g => ?_, fun g j h1 h2 => ?_, fun g j h1 h2 h3 h4 => ?_, fun g => ?_, fun j h1 h2 h3 => ?_⟩
  · rw [Bool.or_eq_true] at g
    rcases g with g | g
    · exact h.s1 g
    · exact ⟨k, hx.trans g⟩
  · rw [Bool.or_eq_false_iff] at g
    by_cases e : j = k
    · rw [e, hx]; exact g.2
    · exact h.s2 g.1 j h1 (by omega)
  · rw [Bool.and_eq_true] at g
    by_cases e : j = k
    · rw [e, hx]
      rw [e] at h3 h4
      rw [decide_eq_true ⟨h3, h4⟩] at hy
      rw [← hy] at g
      simpa using g.2
    · exact h.a1 g.1 j h1 (by omega) h3 h4
  · rw [Bool.and_eq_false_iff] at g
    rcases g with g | g
    · exact h.a2 g
    · rw [Bool.or_eq_false_iff] at g
      have : y = true := by simpa using g.2
      rw [this, decide_eq_true_eq] at hy
      exact ⟨k, hy.1, hy.2, hx.trans g.1⟩
  · by_cases e : j = k
    · rw [e, hx] at h3
      rw [h3] at hxy
      have : y = true := by simpa using hxy
      rw [this, decide_eq_true_eq] at hy
      rw [e]; exact hy
    · exact h.o j h1 (by omega) h3
theorem scan_bad {S full lo hi k : Int} {any : Bool} (hS : 0 ≤ S ∧ S ≤ 18446744073709551615) (hF : 0 ≤ full ∧ full ≤ 18446744073709551615) (hf : ∀ n, inS full n = decide (lo ≤ n ∧ n ≤ hi)) (hx : inS S k = true) (hy : decide (lo ≤ k ∧ k ≤ hi) = false) : okB S full any = false := by
  cases h : okB S full any
  · rfl
  · have := ok_sub hS hF h k hx
    rw [hf, hy] at this; cases this
theorem scan_end {S full lo hi : Int} {any u v : Bool} (hS : 0 ≤ S ∧ S ≤ 18446744073709551615) (hF : 0 ≤ full ∧ full ≤ 18446744073709551615) (hf : ∀ n, inS full n = decide (lo ≤ n ∧ n ≤ hi)) (hlo : 0 ≤ lo) (hhi : hi ≤ 63) (h : Scan S lo hi 64 u v) : okB S full any = !(!u || (any && !v)) := by
  cases u
  · cases g : okB S full any
    · rfl
    · obtain ⟨j, hj⟩ := ok_some hS g
      have b := inS_bd hj
      rw [h.s2 rfl j b.1 (by omega)] at hj; cases hj
  · obtain ⟨j0, hj0⟩ := h.s1 rfl
    have ne : S ≠ 0 := by intro e; rw [e, inS_zero] at hj0; cases hj0
    have sub : ∀ n, inS S n = true → inS full n = true := by
      intro n hn
      have b := inS_bd hn
      rw [hf, decide_eq_true_eq]; exact h.o n b.1 (by omega) hn
    have an : bits .andNot .u64 S full = 0 := by
      refine u_ext _ _ (u_andNot S full hS hF) (by decide) fun n => ?_
      rw [in_andNot S full n hS hF, inS_zero]
      cases g : inS S n
      · rfl
      · rw [sub n g]; rfl
    unfold okB
    rw [decide_eq_false ne, an]
    cases v
    · obtain ⟨j, h1, h2, h3⟩ := h.a2 rfl
      have : S ≠ full := by
        intro e
        rw [e, hf, decide_eq_true ⟨h1, h2⟩] at h3; cases h3
      rw [decide_eq_true this]; cases any <;> rfl
    · have : S = full := by
        refine u_ext _ _ hS hF fun n => ?_
        cases g : inS full n
        · cases g2 : inS S n
          · rfl
          · rw [sub n g2] at g; cases g
        · rw [hf, decide_eq_true_eq] at g
          exact h.a1 rfl n (by omega) (by omega) g.1 g.2
      rw [decide_eq_false (show ¬ (S ≠ full) from fun h => h this)]; cases any <;> rfl
theorem full_min (n : Int) : inS fMin n = decide (0 ≤ n ∧ n ≤ 59) := by
  by_cases g : n < 0
  · rw [inS_neg _ _ g, decide_eq_false (by omega)]
  · obtain ⟨N, rfl⟩ := Int.eq_ofNat_of_zero_le (show 0 ≤ n by omega)
    rw [show fMin = 1152921504606846975 from rfl, (full_in N).1, decide_eq_decide]; omega
theorem full_hour (n : Int) : inS fHour n = decide (0 ≤ n ∧ n ≤ 23) := by
  by_cases g : n < 0
  · rw [inS_neg _ _ g, decide_eq_false (by omega)]
  · obtain ⟨N, rfl⟩ := Int.eq_ofNat_of_zero_le (show 0 ≤ n by omega)
    rw [show fHour = 16777215 from rfl, (full_in N).2.1, decide_eq_decide]; omega
theorem full_day (n : Int) : inS fDay n = decide (1 ≤ n ∧ n ≤ 31) := by
  by_cases g : n < 0
  · rw [inS_neg _ _ g, decide_eq_false (by omega)]
  · obtain ⟨N, rfl⟩ := Int.eq_ofNat_of_zero_le (show 0 ≤ n by omega)
    rw [show fDay = 4294967294 from rfl, (full_in N).2.2.1, decide_eq_decide]; omega
theorem full_mon (n : Int) : inS fMon n = decide (1 ≤ n ∧ n ≤ 12) := by
  by_cases g : n < 0
  · rw [inS_neg _ _ g, decide_eq_false (by omega)]
  · obtain ⟨N, rfl⟩ := Int.eq_ofNat_of_zero_le (show 0 ≤ n by omega)
    rw [show fMon = 8190 from rfl, (full_in N).2.2.2.1, decide_eq_decide]; omega
theorem full_week (n : Int) : inS fWeek n = decide (0 ≤ n ∧ n ≤ 6) := by
  by_cases g : n < 0
  · rw [inS_neg _ _ g, decide_eq_false (by omega)]
  · obtain ⟨N, rfl⟩ := Int.eq_ofNat_of_zero_le (show 0 ≤ n by omega)
    rw [show fWeek = 127 from rfl, (full_in N).2.2.2.2, decide_eq_decide]; omega
end Crn
end Go.Proofs.YtbfnjjdgiihngaaDoor
