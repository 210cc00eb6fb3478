/- What a cron is: sets of numbers as bits; which are right; what matches. Plain mathematics. -/
import Derived.WalkKit
import Derived.Laws.BitsAllLaws
namespace Go.Proofs.YtbfnjjdgiihngaaDoor
namespace Crn
open Go.RowKit

/-- is n in the set s? -/
def inS (s n : Int) : Bool := decide (0 ≤ n) && (decide (n ≤ 63) && s.toNat.testBit n.toNat)

def fMin : Int := 1152921504606846975
def fHour : Int := 16777215
def fDay : Int := 4294967294
def fMon : Int := 8190
def fWeek : Int := 127

/-- one set of a cron is right -/
def okB (s full : Int) (any : Bool) : Bool := !(decide (s = 0) || (decide (bits .andNot .u64 s full ≠ 0) || (any && decide (s ≠ full))))
def chkB (mi ho da mo we : Int) (ad aw : Bool) : Bool := okB mi fMin false && (okB ho fHour false && (okB da fDay ad && (okB mo fMon false && okB we fWeek aw)))
def chkE (mi ho da mo we : Int) (ad aw : Bool) : Int := if chkB mi ho da mo we ad aw = true then 0 else 1

/-- a cron as a value -/
abbrev cronV (mi ho da mo we : Int) (ad aw : Bool) : Value := .agg #[.int .u64 mi, .int .u64 ho, .int .u64 da, .int .u64 mo, .int .u64 we, .bool ad, .bool aw]

/-- does the date fit? -/
def dayB (da mo we : Int) (ad aw : Bool) (m d k : Int) : Bool := inS mo m && ((inS da d && inS we k) || ((!ad && !aw) && (inS da d || inS we k)))
def mtB (mi ho da mo we : Int) (ad aw : Bool) (m d h i k : Int) : Bool := dayB da mo we ad aw m d k && (inS ho h && inS mi i)

theorem and1 (s n : Int) (h0 : 0 ≤ s) (h1 : s ≤ 18446744073709551615) (hn : 0 ≤ n) (hm : n ≤ 63) : bits .and .u64 (s / 2 ^ n.toNat) 1 = if inS s n = true then 1 else 0 := by
  obtain ⟨S, rfl⟩ := Int.eq_ofNat_of_zero_le h0
  obtain ⟨N, rfl⟩ := Int.eq_ofNat_of_zero_le hn
  have e : ((S : Int) / 2 ^ (N : Int).toNat) = ((S / 2 ^ N : Nat) : Int) := by simp
  have hlt : S / 2 ^ N < 18446744073709551616 := Nat.lt_of_le_of_lt (Nat.div_le_self _ _) (by omega)
  rw [e, show (1 : Int) = ((1 : Nat) : Int) from rfl, u64_and_nat _ _ hlt (by decide), Nat.and_one_is_mod]
  have hb : inS (S : Int) (N : Int) = decide (S / 2 ^ N % 2 = 1) := by
    unfold inS
    rw [Int.toNat_natCast, Int.toNat_natCast, Nat.testBit_eq_decide_div_mod_eq, decide_eq_true (by omega : (0 : Int) ≤ N), decide_eq_true hm]
    rfl
  rw [hb]
  rcases Nat.mod_two_eq_zero_or_one (S / 2 ^ N) with g | g <;> simp [g]
/-- is the k-th set right? -/
def okK (mi ho da mo we : Int) (ad aw : Bool) : Nat → Bool
  | 0 => okB mi fMin false
  | 1 => okB ho fHour false
  | 2 => okB da fDay ad
  | 3 => okB mo fMon false
  | _ => okB we fWeek aw
theorem chk_good {mi ho da mo we : Int} {ad aw : Bool} (h : ∀ j, j < 5 → okK mi ho da mo we ad aw j = true) : chkB mi ho da mo we ad aw = true := by
  have h0 : okB mi fMin false = true := h 0 (by decide)
  have h1 : okB ho fHour false = true := h 1 (by decide)
  have h2 : okB da fDay ad = true := h 2 (by decide)
  have h3 : okB mo fMon false = true := h 3 (by decide)
  have h4 : okB we fWeek aw = true := h 4 (by decide)
  simp [chkB, h0, h1, h2, h3, h4]
theorem chk_bad {mi ho da mo we : Int} {ad aw : Bool} (k : Nat) (h : okK mi ho da mo we ad aw k = false) : chkB mi ho da mo we ad aw = false := by
  match k, h with
  | 0, h => have h : okB mi fMin false = false := h; simp [chkB, h]
  | 1, h => have h : okB ho fHour false = false := h; simp [chkB, h]
  | 2, h => have h : okB da fDay ad = false := h; simp [chkB, h]
  | 3, h => have h : okB mo fMon false = false := h; simp [chkB, h]
  | k + 4, h => have h : okB we fWeek aw = false := h; simp [chkB, h]
theorem chkE_good {mi ho da mo we : Int} {ad aw : Bool} (h : ∀ j, j < 5 → okK mi ho da mo we ad aw j = true) : 0 = chkE mi ho da mo we ad aw := by
  unfold chkE; rw [if_pos (chk_good h)]
theorem chkE_bad {mi ho da mo we : Int} {ad aw : Bool} (k : Nat) (h : okK mi ho da mo we ad aw k = false) : 1 = chkE mi ho da mo we ad aw := by
  unfold chkE; rw [if_neg (by rw [chk_bad k h]; decide)]
theorem ok_step {mi ho da mo we : Int} {ad aw : Bool} {k : Nat} (h : ∀ j, j < k → okK mi ho da mo we ad aw j = true) (g : okK mi ho da mo we ad aw k = true) : ∀ j, j < k + 1 → okK mi ho da mo we ad aw j = true := by
  intro j hj
  rcases Nat.lt_or_ge j k with h1 | h1
  · exact h j h1
  · obtain rfl : j = k := by omega
    exact g
end Crn
end Go.Proofs.YtbfnjjdgiihngaaDoor
