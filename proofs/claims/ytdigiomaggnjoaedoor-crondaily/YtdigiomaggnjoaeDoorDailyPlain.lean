/- A cron of one time each day: its next and its last time. Plain mathematics. -/
import Derived.Test.YtdigiomaggnjoaeDoorNextPlain
namespace Go.Proofs.YtdigiomaggnjoaeDoor
namespace Crn
open Go.RowKit Cal

theorem in_pow (H : Nat) (h : H < 64) (n : Int) : inS ((2 ^ H : Nat) : Int) n = decide (n = H) := by
  by_cases g : n < 0
  · rw [inS_neg _ _ g, decide_eq_false (by omega)]
  obtain ⟨N, rfl⟩ := Int.eq_ofNat_of_zero_le (show 0 ≤ n by omega)
  rw [inS_nat, Nat.testBit_two_pow]
  by_cases e : N = H
  · subst e; simp; omega
  · rw [decide_eq_false (show ¬ H = N by omega), decide_eq_false (show ¬ (N : Int) = H by omega), Bool.and_false]
theorem pow_u (H : Nat) (h : H < 64) : 0 ≤ ((2 ^ H : Nat) : Int) ∧ ((2 ^ H : Nat) : Int) ≤ 18446744073709551615 := by
  have h1 : 2 ^ H < 2 ^ 64 := Nat.pow_lt_pow_right (by omega) h
  generalize 2 ^ H = x at h1
  exact ⟨by omega, by omega⟩
theorem okMin : ∀ m : Nat, m < 60 → okB ((2 ^ m : Nat) : Int) fMin false = true := by decide
theorem okHour : ∀ m : Nat, m < 24 → okB ((2 ^ m : Nat) : Int) fHour false = true := by decide
theorem daily_chk (H M : Nat) (h : H < 24) (m : M < 60) : chkB ((2 ^ M : Nat) : Int) ((2 ^ H : Nat) : Int) 4294967294 8190 127 true true = true := by
  unfold chkB
  rw [okMin M m, okHour H h]; decide
theorem fit_all (x : Int) : fitN 4294967294 8190 127 true true x = true := by
  obtain ⟨d1, d2, d3, d4, _⟩ := date_spec x
  have db := dim_bd (yr x) (Cal.mo x)
  unfold fitN dayB
  have e1 : inS 8190 (Cal.mo x) = true := by
    obtain ⟨M, hM⟩ := Int.eq_ofNat_of_zero_le (show 0 ≤ Cal.mo x by omega)
    rw [hM, (full_in M).2.2.2.1, decide_eq_true_eq]; omega
  have e2 : inS 4294967294 (dy x) = true := by rw [day_in, decide_eq_true_eq]; omega
  have e3 : inS 127 ((x + 6) % 7) = true := by
    obtain ⟨M, hM⟩ := Int.eq_ofNat_of_zero_le (show 0 ≤ (x + 6) % 7 by omega)
    rw [hM, (full_in M).2.2.2.2, decide_eq_true_eq]; omega
  rw [e1, e2, e3]; rfl
theorem daily_mt (H M : Nat) (h : H < 24) (m : M < 60) (v : Int) : mtN ((2 ^ M : Nat) : Int) ((2 ^ H : Nat) : Int) 4294967294 8190 127 true true v = decide (v % 1440 = H * 60 + M) := by
  unfold mtN okM
  rw [fit_all, in_pow H (by omega), in_pow M (by omega), Bool.true_and]
  by_cases g : v % 1440 = H * 60 + M
  · rw [decide_eq_true g, decide_eq_true (show v % 1440 / 60 = H by omega), decide_eq_true (show v % 1440 % 60 = M by omega)]; rfl
  · rw [decide_eq_false g]
    by_cases c : v % 1440 / 60 = H
    · rw [decide_eq_false (show ¬ v % 1440 % 60 = M by omega), Bool.and_false]
    · rw [decide_eq_false c, Bool.false_and]
theorem daily_first (H M : Nat) (h : H < 24) (m : M < 60) (U u : Int) (h1 : U < u) (h2 : u ≤ U + 1440) (h3 : u % 1440 = H * 60 + M) : FirstN ((2 ^ M : Nat) : Int) ((2 ^ H : Nat) : Int) 4294967294 8190 127 true true U u := by
  refine ⟨h1, by omega, ?_, fun v g1 g2 => ?_⟩
  · rw [daily_mt H M h m, decide_eq_true h3]
  · rw [daily_mt H M h m]; exact decide_eq_false (by omega)
theorem daily_last (H M : Nat) (h : H < 24) (m : M < 60) (U u : Int) (h1 : u ≤ U) (h2 : U < u + 1440) (h3 : u % 1440 = H * 60 + M) : LastN ((2 ^ M : Nat) : Int) ((2 ^ H : Nat) : Int) 4294967294 8190 127 true true U u := by
  refine ⟨h1, by omega, ?_, fun v g1 g2 => ?_⟩
  · rw [daily_mt H M h m, decide_eq_true h3]
  · rw [daily_mt H M h m]; exact decide_eq_false (by omega)
end Crn
end Go.Proofs.YtdigiomaggnjoaeDoor
