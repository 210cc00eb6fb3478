
/- Plain arithmetic of package num: clipping, products, quotients that are rounded. No program in sight. -/
import Derived.WalkKit
namespace Go.Proofs.Ytanlhkokghjadac
namespace Plain

def clip (n : Int) : Int := if 1000000000000000 < n then 1000000000000000 else if n < -1000000000000000 then -1000000000000000 else n

theorem clip_bd (n : Int) : -1000000000000000 ≤ clip n ∧ clip n ≤ 1000000000000000 := by
  unfold clip; split
  · omega
  · split <;> omega

theorem clip_hi {n : Int} (h : 1000000000000000 < n) : clip n = 1000000000000000 := by unfold clip; rw [if_pos h]
theorem clip_lo {n : Int} (h : n < -1000000000000000) : clip n = -1000000000000000 := by
  unfold clip; rw [if_neg (by omega), if_pos h]
theorem clip_in {n : Int} (h1 : -1000000000000000 ≤ n) (h2 : n ≤ 1000000000000000) : clip n = n := by
  unfold clip; rw [if_neg (by omega), if_neg (by omega)]

theorem clip_mono {a b : Int} (h : a ≤ b) : clip a ≤ clip b := by
  unfold clip; repeat (first | omega | split)

theorem clip_clip (n : Int) : clip (clip n) = clip n := by
  have := clip_bd n
  exact clip_in (by omega) (by omega)

def sz (n : Int) : Int := if n < 0 then -n else n
theorem sz_neg {n : Int} (h : n < 0) : sz n = -n := by unfold sz; rw [if_pos h]
theorem sz_pos {n : Int} (h : 0 ≤ n) : sz n = n := by unfold sz; rw [if_neg (by omega)]
theorem sz_bd (n : Int) (h : -1000000000000000 ≤ n ∧ n ≤ 1000000000000000) : 0 ≤ sz n ∧ sz n ≤ 1000000000000000 := by
  unfold sz; split <;> omega
theorem sz_one (n : Int) (h : n ≠ 0) : 1 ≤ sz n := by unfold sz; split <;> omega

def atz (n : Int) : Int := if n < 0 then 0 else n
theorem atz_neg {n : Int} (h : n < 0) : atz n = 0 := by unfold atz; rw [if_pos h]
theorem atz_pos {n : Int} (h : 0 ≤ n) : atz n = n := by unfold atz; rw [if_neg (by omega)]
theorem atz_bd (n : Int) (h : -1000000000000000 ≤ n ∧ n ≤ 1000000000000000) : 0 ≤ atz n ∧ atz n ≤ 1000000000000000 := by
  unfold atz; split <;> omega

/-- the size of a product is the product of the sizes -/
theorem sz_mul (a b : Int) : sz (a * b) = sz a * sz b := by
  rcases Int.lt_or_le a 0 with ha | ha
  · rcases Int.lt_or_le b 0 with hb | hb
    · rw [sz_neg ha, sz_neg hb, sz_pos (by have := Int.mul_pos_of_neg_of_neg ha hb; omega), Int.neg_mul_neg]
    · rw [sz_neg ha, sz_pos hb]
      have h : a * b ≤ 0 := Int.mul_nonpos_of_nonpos_of_nonneg (by omega) hb
      rcases Int.lt_or_le (a * b) 0 with h' | h'
      · rw [sz_neg h', Int.neg_mul]
      · have e : a * b = 0 := by omega
        rw [Int.neg_mul, e]; rfl
  · rcases Int.lt_or_le b 0 with hb | hb
    · rw [sz_pos ha, sz_neg hb]
      have h : a * b ≤ 0 := Int.mul_nonpos_of_nonneg_of_nonpos ha (by omega)
      rcases Int.lt_or_le (a * b) 0 with h' | h'
      · rw [sz_neg h', Int.mul_neg]
      · have e : a * b = 0 := by omega
        rw [Int.mul_neg, e]; rfl
    · rw [sz_pos ha, sz_pos hb, sz_pos (Int.mul_nonneg ha hb)]

theorem le_sz (n : Int) : n ≤ sz n ∧ -n ≤ sz n := by unfold sz; split <;> omega

/-- a product that fits -/
theorem mul_fits (a b : Int) (h0 : a ≠ 0) (h : sz b ≤ 1000000000000000 / sz a) : -1000000000000000 ≤ a * b ∧ a * b ≤ 1000000000000000 := by
  have h1 := sz_one a h0
  have h2 : sz b * sz a ≤ 1000000000000000 := (Int.le_ediv_iff_mul_le (by omega)).1 h
  have h3 := sz_mul a b
  have h4 := le_sz (a * b)
  rw [Int.mul_comm] at h2
  omega

/-- a product that is too great -/
theorem mul_great (a b : Int) (h0 : a ≠ 0) (h : 1000000000000000 / sz a < sz b) : 1000000000000000 < sz (a * b) := by
  have h1 := sz_one a h0
  have h2 : 1000000000000000 < sz b * sz a := (Int.ediv_lt_iff_lt_mul (by omega)).1 h
  rw [sz_mul, Int.mul_comm]
  exact h2

def mulc (a b : Int) : Int := clip (a * b)
theorem mulc_zero (a b : Int) (h : a = 0) : mulc a b = a * b := by
  subst h; rw [Int.zero_mul]; unfold mulc; rw [Int.zero_mul]; rfl
theorem mulc_fits (a b : Int) (h0 : a ≠ 0) (h : sz b ≤ 1000000000000000 / sz a) : mulc a b = a * b := by
  have := mul_fits a b h0 h
  exact clip_in this.1 this.2
theorem mulc_great (a b : Int) (h0 : a ≠ 0) (h : 1000000000000000 / sz a < sz b) : mulc a b = if (decide (a < 0) != decide (b < 0)) = true then -1000000000000000 else 1000000000000000 := by
  have hg := mul_great a b h0 h
  have hb : b ≠ 0 := by
    intro e; subst e
    have h1 := sz_one a h0
    have h2 : 0 ≤ 1000000000000000 / sz a := Int.ediv_nonneg (by omega) (by omega)
    have h3 : sz 0 = 0 := rfl
    omega
  unfold mulc
  rcases Int.lt_or_le a 0 with ha | ha <;> rcases Int.lt_or_le b 0 with hb' | hb'
  · have h5 := Int.mul_pos_of_neg_of_neg ha hb'
    rw [sz_pos (by omega)] at hg
    rw [if_neg (by simp [ha, hb']), clip_hi hg]
  · have h5 : a * b ≤ 0 := Int.mul_nonpos_of_nonpos_of_nonneg (by omega) hb'
    have h6 : ¬ b < 0 := by omega
    rw [if_pos (by simp [ha, h6]), clip_lo]
    rcases Int.lt_or_le (a * b) 0 with h' | h'
    · rw [sz_neg h'] at hg; omega
    · rw [sz_pos h'] at hg; omega
  · have h5 : a * b ≤ 0 := Int.mul_nonpos_of_nonneg_of_nonpos ha (by omega)
    have h6 : ¬ a < 0 := by omega
    rw [if_pos (by simp [hb', h6]), clip_lo]
    rcases Int.lt_or_le (a * b) 0 with h' | h'
    · rw [sz_neg h'] at hg; omega
    · rw [sz_pos h'] at hg; omega
  · have h5 := Int.mul_nonneg ha hb'
    have h6 : ¬ a < 0 := by omega
    have h7 : ¬ b < 0 := by omega
    rw [sz_pos (by omega)] at hg
    rw [if_neg (by simp [h6, h7]), clip_hi hg]

/-- the quotient rounded up -/
def up (a b : Int) : Int := if 0 < a.tmod b then a.tdiv b + 1 else a.tdiv b
theorem tquot (a b : Int) (hb : 1 ≤ b) : (0 ≤ a → a.tdiv b * b ≤ a ∧ a < a.tdiv b * b + b ∧ a.tmod b = a - a.tdiv b * b) ∧ (a < 0 → a ≤ a.tdiv b * b ∧ a.tdiv b * b < a + b ∧ a.tmod b = a - a.tdiv b * b) := by
  have h1 := Int.tmod_add_mul_tdiv a b
  rw [Int.mul_comm] at h1
  refine ⟨fun h => ?_, fun h => ?_⟩
  · have h2 := Int.tmod_nonneg b h
    have h3 := Int.tmod_lt_of_pos a (show 0 < b by omega)
    omega
  · have h2 := Int.tmod_nonneg b (show 0 ≤ -a by omega)
    have h3 := Int.tmod_lt_of_pos (-a) (show 0 < b by omega)
    rw [Int.neg_tmod] at h2 h3
    omega
theorem up_ok (a b : Int) (hb : 1 ≤ b) : a ≤ up a b * b ∧ (up a b - 1) * b < a := by
  have ⟨h1, h2⟩ := tquot a b hb
  rw [Int.sub_mul, Int.one_mul]
  unfold up
  split
  · rename_i h
    rw [Int.add_mul, Int.one_mul]
    rcases Int.lt_or_le a 0 with ha | ha
    · have := h2 ha; omega
    · have := h1 ha; omega
  · rename_i h
    rcases Int.lt_or_le a 0 with ha | ha
    · have := h2 ha; omega
    · have := h1 ha; omega
theorem tdiv_bd (a b : Int) (hb : 1 ≤ b) (h : -1000000000000000 ≤ a ∧ a ≤ 1000000000000000) : -1000000000000000 ≤ a.tdiv b ∧ a.tdiv b ≤ 1000000000000000 := by
  rcases Int.lt_or_le a 0 with ha | ha
  · have e : a.tdiv b = -((-a).tdiv b) := by rw [Int.neg_tdiv]; omega
    have h1 : (-a).tdiv b ≤ -a := Int.tdiv_le_self b (by omega)
    have h2 : 0 ≤ (-a).tdiv b := Int.tdiv_nonneg (by omega) (by omega)
    omega
  · have h1 : a.tdiv b ≤ a := Int.tdiv_le_self b ha
    have h2 : 0 ≤ a.tdiv b := Int.tdiv_nonneg ha (by omega)
    omega
theorem up_bd (a b : Int) (hb : 1 ≤ b) (h : -1000000000000000 ≤ a ∧ a ≤ 1000000000000000) : -1000000000000000 ≤ up a b ∧ up a b ≤ 1000000000000001 := by
  have := tdiv_bd a b hb h
  unfold up; split <;> omega

/-- the share of A by M thousandths, rounded down, clipped -/
def share (A M : Int) : Int := clip (A * M / 1000)
theorem share_parts (A M : Int) : A * M / 1000 = A / 1000 * M + A % 1000 * M / 1000 := by
  have e : A * M = A % 1000 * M + 1000 * (A / 1000 * M) := by
    have h : A = A % 1000 + 1000 * (A / 1000) := by omega
    have h2 : A * M = (A % 1000 + 1000 * (A / 1000)) * M := congrArg (· * M) h
    rw [h2, Int.add_mul, Int.mul_assoc]
  rw [e, Int.add_mul_ediv_left _ _ (by omega)]
  omega
theorem rest_bd (A M : Int) (hM : 0 ≤ M ∧ M ≤ 1000000000000000) : 0 ≤ A % 1000 * M ∧ A % 1000 * M ≤ 999000000000000000 := by
  have h1 : 0 ≤ A % 1000 := by omega
  have h2 : A % 1000 ≤ 999 := by omega
  have h3 := Int.mul_nonneg h1 hM.1
  have h4 : A % 1000 * M ≤ 999 * M := Int.mul_le_mul_of_nonneg_right h2 hM.1
  omega
theorem clip_sum (x s : Int) (hx : 0 ≤ x) (hs : 0 ≤ s) : clip (clip x + s) = clip (x + s) := by
  by_cases h : x ≤ 1000000000000000
  · rw [clip_in (by omega) h]
  · rw [clip_hi (n := x) (by omega)]
    by_cases h0 : s = 0
    · subst h0; rw [clip_hi (n := x + 0) (by omega)]; exact clip_in (by omega) (by omega)
    · rw [clip_hi (n := x + s) (by omega), clip_hi (by omega)]
theorem share_ok (A M : Int) (hA : 0 ≤ A ∧ A ≤ 1000000000000000) (hM : 0 ≤ M ∧ M ≤ 1000000000000000) :
    clip (clip (mulc (clip (A / 1000)) (clip M)) + clip (A % 1000 * M / 1000)) = share A M := by
  have hr := rest_bd A M hM
  rw [clip_in (n := A / 1000) (by omega) (by omega), clip_in (n := M) (by omega) (by omega), clip_in (n := A % 1000 * M / 1000) (by omega) (by omega)]
  unfold mulc
  have hq : 0 ≤ A / 1000 * M := Int.mul_nonneg (by omega) hM.1
  rw [clip_clip, clip_sum _ _ hq (by omega)]
  unfold share
  rw [share_parts A M]

end Plain
end Go.Proofs.Ytanlhkokghjadac
