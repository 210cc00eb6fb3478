/- Sets as bits: the least number from one on, the greatest up to one; what is, is not, in sets that are made of others. Plain mathematics. -/
import Derived.Test.YtbfnjjdgiihngaaDoorCronPlain
import Derived.Lib.TrailingZeros
import Derived.Lib.BitFns
namespace Go.Proofs.YtbfnjjdgiihngaaDoor
namespace Crn
open Go.RowKit

theorem inS_nat (S N : Nat) : inS (S : Int) (N : Int) = (decide (N ≤ 63) && S.testBit N) := by
  unfold inS
  rw [Int.toNat_natCast, Int.toNat_natCast, decide_eq_true (show (0 : Int) ≤ N by omega)]
  rw [show decide ((N : Int) ≤ 63) = decide (N ≤ 63) by rw [decide_eq_decide]; omega]
  rfl
theorem inS_neg (s n : Int) (h : n < 0) : inS s n = false := by unfold inS; rw [decide_eq_false (by omega)]; rfl
theorem inS_big (s n : Int) (h : 63 < n) : inS s n = false := by unfold inS; rw [decide_eq_false (show ¬ n ≤ 63 by omega)]; simp
theorem inS_bd {s n : Int} (h : inS s n = true) : 0 ≤ n ∧ n ≤ 63 := by
  refine ⟨?_, ?_⟩
  · by_cases g : 0 ≤ n
    · exact g
    · rw [inS_neg s n (by omega)] at h; cases h
  · by_cases g : n ≤ 63
    · exact g
    · rw [inS_big s n (by omega)] at h; cases h

/-- the set's numbers from n on -/
def hiS (s n : Int) : Int := s / 2 ^ n.toNat * 2 ^ n.toNat
def frm (s n : Int) : Int := Lib.ctz 64 (hiS s n).toNat
def frmB (s n : Int) : Bool := decide (hiS s n ≠ 0)

theorem hiS_nat (S N : Nat) : hiS (S : Int) (N : Int) = ((S / 2 ^ N * 2 ^ N : Nat) : Int) := by unfold hiS; simp
theorem hi_bit (S N i : Nat) : (S / 2 ^ N * 2 ^ N).testBit i = (decide (N ≤ i) && S.testBit i) := by
  rw [← Nat.shiftRight_eq_div_pow, ← Nat.shiftLeft_eq, Nat.testBit_shiftLeft, Nat.testBit_shiftRight]
  by_cases h : N ≤ i
  · rw [show N + (i - N) = i by omega]
  · simp [h]
theorem hi_lt (S N : Nat) (h : S < 2 ^ 64) : S / 2 ^ N * 2 ^ N < 2 ^ 64 := Nat.lt_of_le_of_lt (Nat.div_mul_le_self _ _) h

theorem ctz_spec (x : Nat) (h0 : x ≠ 0) (h : x < 2 ^ 64) : Lib.ctz 64 x < 64 ∧ x.testBit (Lib.ctz 64 x) = true ∧ ∀ i, i < Lib.ctz 64 x → x.testBit i = false := by
  obtain ⟨m, hm, hk⟩ := Lib.ctzFrom_spec 64 x (by omega) h
  have e : Lib.ctz 64 x = Lib.ctzFrom 64 x := by unfold Lib.ctz; rw [if_neg h0]
  rw [e]
  generalize Lib.ctzFrom 64 x = k at hm hk
  refine ⟨hk, ?_, ?_⟩
  · rw [hm, Nat.mul_comm, ← Nat.shiftLeft_eq, Nat.testBit_shiftLeft]
    simp
  · intro i hi
    rw [hm, Nat.mul_comm, ← Nat.shiftLeft_eq, Nat.testBit_shiftLeft]
    simp; omega
theorem ctz_none : Lib.ctz 64 0 = 64 := rfl
theorem ctz_le (x : Nat) (h : x < 2 ^ 64) : Lib.ctz 64 x ≤ 64 := by
  by_cases h0 : x = 0
  · subst h0; exact Nat.le_refl _
  · have := (ctz_spec x h0 h).1; omega

theorem frm_bd (s n : Int) (h0 : 0 ≤ s ∧ s ≤ 18446744073709551615) (hn : 0 ≤ n) : 0 ≤ frm s n ∧ frm s n ≤ 64 := by
  obtain ⟨S, rfl⟩ := Int.eq_ofNat_of_zero_le h0.1
  obtain ⟨N, rfl⟩ := Int.eq_ofNat_of_zero_le hn
  unfold frm
  rw [hiS_nat, Int.toNat_natCast]
  have := ctz_le _ (hi_lt S N (by omega))
  omega
theorem frm_yes (s n : Int) (h0 : 0 ≤ s ∧ s ≤ 18446744073709551615) (hn : 0 ≤ n) (h : frmB s n = true) :
    n ≤ frm s n ∧ frm s n ≤ 63 ∧ inS s (frm s n) = true ∧ ∀ m, n ≤ m → m < frm s n → inS s m = false := by
  obtain ⟨S, rfl⟩ := Int.eq_ofNat_of_zero_le h0.1
  obtain ⟨N, rfl⟩ := Int.eq_ofNat_of_zero_le hn
  unfold frmB at h
  unfold frm
  rw [hiS_nat, decide_eq_true_eq] at h
  rw [hiS_nat, Int.toNat_natCast]
  have hx0 : S / 2 ^ N * 2 ^ N ≠ 0 := by intro e; rw [e] at h; exact h rfl
  obtain ⟨h1, h2, h3⟩ := ctz_spec _ hx0 (hi_lt S N (by omega))
  generalize Lib.ctz 64 (S / 2 ^ N * 2 ^ N) = k at h1 h2 h3
  rw [hi_bit, Bool.and_eq_true, decide_eq_true_eq] at h2
  refine ⟨by omega, by omega, ?_, ?_⟩
  · rw [inS_nat, h2.2, decide_eq_true (show k ≤ 63 by omega)]; rfl
  · intro m g1 g2
    obtain ⟨M, rfl⟩ := Int.eq_ofNat_of_zero_le (show 0 ≤ m by omega)
    have := h3 M (by omega)
    rw [hi_bit, decide_eq_true (show N ≤ M by omega), Bool.true_and] at this
    rw [inS_nat, this, Bool.and_false]
theorem frm_no (s n : Int) (h0 : 0 ≤ s ∧ s ≤ 18446744073709551615) (hn : 0 ≤ n) (h : frmB s n = false) : ∀ m, n ≤ m → inS s m = false := by
  intro m hm
  obtain ⟨S, rfl⟩ := Int.eq_ofNat_of_zero_le h0.1
  obtain ⟨N, rfl⟩ := Int.eq_ofNat_of_zero_le hn
  obtain ⟨M, rfl⟩ := Int.eq_ofNat_of_zero_le (show 0 ≤ m by omega)
  unfold frmB at h
  rw [hiS_nat, decide_eq_false_iff_not] at h
  have hx0 : S / 2 ^ N * 2 ^ N = 0 := by omega
  have := hi_bit S N M
  rw [hx0, Nat.zero_testBit, decide_eq_true (show N ≤ M by omega), Bool.true_and] at this
  rw [inS_nat, ← this, Bool.and_false]
theorem frmB_mk {s n m : Int} (h0 : 0 ≤ s ∧ s ≤ 18446744073709551615) (hn : 0 ≤ n) (hm : n ≤ m) (h : inS s m = true) : frmB s n = true := by
  cases g : frmB s n
  · rw [frm_no s n h0 hn g m hm] at h; cases h
  · rfl

/-- the set's numbers up to n -/
def loS (s n : Int) : Int := s % 2 ^ (n + 1).toNat
def upt (s n : Int) : Int := Lib.bitLen (loS s n).toNat - 1
def uptB (s n : Int) : Bool := decide (loS s n ≠ 0)

theorem loS_nat (S N : Nat) : loS (S : Int) ((N : Int) - 1) = ((S % 2 ^ N : Nat) : Int) := by
  unfold loS
  rw [show ((N : Int) - 1 + 1).toNat = N by omega]
  simp
theorem bl (x : Nat) (h0 : x ≠ 0) (h : x < 2 ^ 64) : Lib.bitLen x = Nat.log2 x + 1 := by
  have h1 := Nat.log2_self_le h0
  have h2 : x < 2 ^ (Nat.log2 x + 1) := Nat.lt_log2_self
  rw [Lib.bitLen_shift (Nat.log2 x) x h1 h]
  have : x / 2 ^ (Nat.log2 x) = 1 := by
    apply Nat.div_eq_of_lt_le
    · omega
    · rw [Nat.pow_succ] at h2; omega
  rw [this]; rfl
theorem log_spec (x : Nat) (h0 : x ≠ 0) : x.testBit (Nat.log2 x) = true ∧ ∀ i, Nat.log2 x < i → x.testBit i = false := by
  have h1 := Nat.log2_self_le h0
  have h2 : x < 2 ^ (Nat.log2 x + 1) := Nat.lt_log2_self
  refine ⟨?_, fun i hi => ?_⟩
  · have : x / 2 ^ (Nat.log2 x) = 1 := by
      apply Nat.div_eq_of_lt_le
      · omega
      · rw [Nat.pow_succ] at h2; omega
    rw [Nat.testBit_eq_decide_div_mod_eq, this]; rfl
  · apply Nat.testBit_lt_two_pow
    exact Nat.lt_of_lt_of_le h2 (Nat.pow_le_pow_right (by omega) (by omega))
theorem lo_lt (S N : Nat) (h : S < 2 ^ 64) : S % 2 ^ N < 2 ^ 64 := Nat.lt_of_le_of_lt (Nat.mod_le _ _) h
theorem upt_yes (s n : Int) (h0 : 0 ≤ s ∧ s ≤ 18446744073709551615) (hn : -1 ≤ n) (h : uptB s n = true) :
    0 ≤ upt s n ∧ upt s n ≤ n ∧ upt s n ≤ 63 ∧ inS s (upt s n) = true ∧ ∀ m, upt s n < m → m ≤ n → inS s m = false := by
  obtain ⟨S, rfl⟩ := Int.eq_ofNat_of_zero_le h0.1
  obtain ⟨N, hN⟩ := Int.eq_ofNat_of_zero_le (show 0 ≤ n + 1 by omega)
  obtain rfl : n = (N : Int) - 1 := by omega
  unfold uptB at h
  unfold upt
  rw [loS_nat, decide_eq_true_eq] at h
  rw [loS_nat, Int.toNat_natCast]
  have hx0 : S % 2 ^ N ≠ 0 := by intro e; rw [e] at h; exact h rfl
  rw [bl _ hx0 (lo_lt S N (by omega))]
  obtain ⟨h1, h2⟩ := log_spec _ hx0
  have h3 : Nat.log2 (S % 2 ^ N) < 64 := (Nat.log2_lt hx0).2 (lo_lt S N (by omega))
  generalize Nat.log2 (S % 2 ^ N) = k at h1 h2 h3
  rw [Nat.testBit_mod_two_pow, Bool.and_eq_true, decide_eq_true_eq] at h1
  rw [show ((k + 1 : Nat) : Int) - 1 = (k : Int) by omega]
  refine ⟨by omega, by omega, by omega, ?_, ?_⟩
  · rw [inS_nat, h1.2, decide_eq_true (show k ≤ 63 by omega)]; rfl
  · intro m g1 g2
    obtain ⟨M, rfl⟩ := Int.eq_ofNat_of_zero_le (show 0 ≤ m by omega)
    have := h2 M (by omega)
    rw [Nat.testBit_mod_two_pow, decide_eq_true (show M < N by omega), Bool.true_and] at this
    rw [inS_nat, this, Bool.and_false]
theorem upt_no (s n : Int) (h0 : 0 ≤ s ∧ s ≤ 18446744073709551615) (hn : -1 ≤ n) (h : uptB s n = false) : ∀ m, m ≤ n → inS s m = false := by
  intro m hm
  by_cases hm0 : m < 0
  · exact inS_neg _ _ hm0
  obtain ⟨S, rfl⟩ := Int.eq_ofNat_of_zero_le h0.1
  obtain ⟨N, hN⟩ := Int.eq_ofNat_of_zero_le (show 0 ≤ n + 1 by omega)
  obtain rfl : n = (N : Int) - 1 := by omega
  obtain ⟨M, rfl⟩ := Int.eq_ofNat_of_zero_le (show 0 ≤ m by omega)
  unfold uptB at h
  rw [loS_nat, decide_eq_false_iff_not] at h
  have hx0 : S % 2 ^ N = 0 := by omega
  have : (S % 2 ^ N).testBit M = (decide (M < N) && S.testBit M) := Nat.testBit_mod_two_pow _ _ _
  rw [hx0, Nat.zero_testBit, decide_eq_true (show M < N by omega), Bool.true_and] at this
  rw [inS_nat, ← this, Bool.and_false]
theorem upt_zero (s n : Int) (h : uptB s n = false) : upt s n = -1 := by
  unfold uptB at h; rw [decide_eq_false_iff_not] at h
  have : loS s n = 0 := by omega
  unfold upt; rw [this]; rfl
theorem uptB_mk {s n m : Int} (h0 : 0 ≤ s ∧ s ≤ 18446744073709551615) (hn : -1 ≤ n) (hm : m ≤ n) (h : inS s m = true) : uptB s n = true := by
  cases g : uptB s n
  · rw [upt_no s n h0 hn g m hm] at h; cases h
  · rfl

/-- sets that are made of others -/
theorem in_and (a b n : Int) (ha : 0 ≤ a ∧ a ≤ 18446744073709551615) (hb : 0 ≤ b ∧ b ≤ 18446744073709551615) : inS (bits .and .u64 a b) n = (inS a n && inS b n) := by
  rw [u64_and a b ha.1 (by omega) hb.1 (by omega)]
  obtain ⟨A, rfl⟩ := Int.eq_ofNat_of_zero_le ha.1
  obtain ⟨B, rfl⟩ := Int.eq_ofNat_of_zero_le hb.1
  by_cases hn : n < 0
  · rw [inS_neg _ _ hn, inS_neg _ _ hn]; rfl
  obtain ⟨N, rfl⟩ := Int.eq_ofNat_of_zero_le (show 0 ≤ n by omega)
  rw [Int.toNat_natCast, Int.toNat_natCast, inS_nat, inS_nat, inS_nat, Nat.testBit_and]
  cases decide (N ≤ 63) <;> simp
theorem in_or (a b n : Int) (ha : 0 ≤ a ∧ a ≤ 18446744073709551615) (hb : 0 ≤ b ∧ b ≤ 18446744073709551615) : inS (bits .or .u64 a b) n = (inS a n || inS b n) := by
  rw [u64_or a b ha.1 (by omega) hb.1 (by omega)]
  obtain ⟨A, rfl⟩ := Int.eq_ofNat_of_zero_le ha.1
  obtain ⟨B, rfl⟩ := Int.eq_ofNat_of_zero_le hb.1
  by_cases hn : n < 0
  · rw [inS_neg _ _ hn, inS_neg _ _ hn]; simp [inS_neg _ _ hn]
  obtain ⟨N, rfl⟩ := Int.eq_ofNat_of_zero_le (show 0 ≤ n by omega)
  rw [Int.toNat_natCast, Int.toNat_natCast, inS_nat, inS_nat, inS_nat, Nat.testBit_or]
  cases decide (N ≤ 63) <;> simp
theorem u_and (a b : Int) (ha : 0 ≤ a ∧ a ≤ 18446744073709551615) (hb : 0 ≤ b ∧ b ≤ 18446744073709551615) : 0 ≤ bits .and .u64 a b ∧ bits .and .u64 a b ≤ 18446744073709551615 := by
  rw [u64_and a b ha.1 (by omega) hb.1 (by omega)]
  have : a.toNat &&& b.toNat < 2 ^ 64 := Nat.and_lt_two_pow _ (by omega)
  omega
theorem u_or (a b : Int) (ha : 0 ≤ a ∧ a ≤ 18446744073709551615) (hb : 0 ≤ b ∧ b ≤ 18446744073709551615) : 0 ≤ bits .or .u64 a b ∧ bits .or .u64 a b ≤ 18446744073709551615 := by
  rw [u64_or a b ha.1 (by omega) hb.1 (by omega)]
  have : a.toNat ||| b.toNat < 2 ^ 64 := Nat.or_lt_two_pow (by omega) (by omega)
  omega
theorem in_andNot (a b n : Int) (ha : 0 ≤ a ∧ a ≤ 18446744073709551615) (hb : 0 ≤ b ∧ b ≤ 18446744073709551615) : inS (bits .andNot .u64 a b) n = (inS a n && !inS b n) := by
  rw [u64_andNot a b ha.1 (by omega) hb.1 (by omega)]
  obtain ⟨A, rfl⟩ := Int.eq_ofNat_of_zero_le ha.1
  obtain ⟨B, rfl⟩ := Int.eq_ofNat_of_zero_le hb.1
  by_cases hn : n < 0
  · rw [inS_neg _ _ hn, inS_neg _ _ hn]; rfl
  obtain ⟨N, rfl⟩ := Int.eq_ofNat_of_zero_le (show 0 ≤ n by omega)
  rw [Int.toNat_natCast, Int.toNat_natCast, inS_nat, inS_nat, inS_nat, Nat.testBit_and]
  rw [show 18446744073709551615 - B = 2 ^ 64 - (B + 1) by omega, Nat.testBit_two_pow_sub_succ (show B < 2 ^ 64 by omega) N]
  by_cases h : N ≤ 63
  · rw [decide_eq_true h, decide_eq_true (show N < 64 by omega)]; simp
  · rw [decide_eq_false h]; rfl
theorem u_andNot (a b : Int) (ha : 0 ≤ a ∧ a ≤ 18446744073709551615) (hb : 0 ≤ b ∧ b ≤ 18446744073709551615) : 0 ≤ bits .andNot .u64 a b ∧ bits .andNot .u64 a b ≤ 18446744073709551615 := by
  rw [u64_andNot a b ha.1 (by omega) hb.1 (by omega)]
  have : a.toNat &&& (18446744073709551615 - b.toNat) < 2 ^ 64 := Nat.and_lt_two_pow _ (by omega)
  omega
theorem in_shr (a k n : Int) (ha : 0 ≤ a ∧ a ≤ 18446744073709551615) (hk : 0 ≤ k) (hn : 0 ≤ n) : inS (a / 2 ^ k.toNat) n = inS a (n + k) := by
  obtain ⟨A, rfl⟩ := Int.eq_ofNat_of_zero_le ha.1
  obtain ⟨K, rfl⟩ := Int.eq_ofNat_of_zero_le hk
  obtain ⟨N, rfl⟩ := Int.eq_ofNat_of_zero_le hn
  rw [Int.toNat_natCast, show ((A : Int) / 2 ^ K) = ((A / 2 ^ K : Nat) : Int) by simp, show (N : Int) + (K : Int) = ((N + K : Nat) : Int) by simp, inS_nat, inS_nat, ← Nat.shiftRight_eq_div_pow, Nat.testBit_shiftRight, Nat.add_comm K N]
  by_cases h : N + K ≤ 63
  · rw [decide_eq_true h, decide_eq_true (show N ≤ 63 by omega)]
  · rw [decide_eq_false h]
    rw [Nat.testBit_lt_two_pow (Nat.lt_of_lt_of_le (show A < 2 ^ 64 by omega) (Nat.pow_le_pow_right (by omega) (by omega)))]
    simp
theorem in_shl (a k n : Int) (ha : 0 ≤ a ∧ a ≤ 18446744073709551615) (hk : 0 ≤ k) : inS (IntKind.u64.wrap (a * 2 ^ k.toNat)) n = (decide (n ≤ 63) && inS a (n - k)) := by
  obtain ⟨A, rfl⟩ := Int.eq_ofNat_of_zero_le ha.1
  obtain ⟨K, rfl⟩ := Int.eq_ofNat_of_zero_le hk
  by_cases hn : n < 0
  · rw [inS_neg _ _ hn, inS_neg _ _ (by omega)]; simp
  obtain ⟨N, rfl⟩ := Int.eq_ofNat_of_zero_le (show 0 ≤ n by omega)
  rw [IntKind.wrap_u64, Int.toNat_natCast, show ((A : Int) * 2 ^ K) % 18446744073709551616 = ((A * 2 ^ K % 2 ^ 64 : Nat) : Int) by simp, inS_nat, Nat.testBit_mod_two_pow, ← Nat.shiftLeft_eq, Nat.testBit_shiftLeft]
  by_cases h : N ≤ 63
  · rw [decide_eq_true h, decide_eq_true (show N < 64 by omega), decide_eq_true (show (N : Int) ≤ 63 by omega), Bool.true_and, Bool.true_and, Bool.true_and]
    by_cases g : K ≤ N
    · rw [decide_eq_true (show N ≥ K from g), show (N : Int) - (K : Int) = ((N - K : Nat) : Int) by omega, inS_nat, decide_eq_true (show N - K ≤ 63 by omega)]
    · rw [decide_eq_false (show ¬ N ≥ K from g), inS_neg _ _ (by omega)]; rfl
  · rw [decide_eq_false h, decide_eq_false (show ¬ (N : Int) ≤ 63 by omega)]; rfl
end Crn
end Go.Proofs.YtbfnjjdgiihngaaDoor
