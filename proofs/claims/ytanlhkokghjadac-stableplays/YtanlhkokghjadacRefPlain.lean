
/- Plain arithmetic behind the document's own way of reckoning in package num: products digit by digit, clipped on the way. No program in sight. -/
import Derived.WalkKit
import Derived.Test.YtanlhkokghjadacNumPlain
namespace Go.Proofs.Ytanlhkokghjadac
namespace Plain

/-- clipping on the way is clipping at the end, of numbers from 0 on -/
theorem clip_ten (x : Int) (hx : 0 ≤ x) : clip (clip x * 10) = clip (x * 10) := by
  by_cases h : x ≤ 1000000000000000
  · rw [clip_in (by omega) h]
  · rw [clip_hi (n := x) (by omega), clip_hi (by omega), clip_hi (by omega)]

theorem clip_pos {x : Int} (h : 0 ≤ x) : 0 ≤ clip x := by unfold clip; repeat (first | omega | split)

/-- a power of ten -/
def Ten (p : Int) : Prop := ∃ j : Nat, p = 10 ^ j
theorem ten_first : Ten 1000000000000000 := ⟨15, by decide⟩
theorem ten_next {p : Int} (h : Ten p) : p = 1 ∨ (Ten (p / 10) ∧ p = 10 * (p / 10)) := by
  obtain ⟨j, rfl⟩ := h
  cases j with
  | zero => left; rfl
  | succ j =>
    right
    have e : (10 : Int) ^ (j + 1) = 10 * 10 ^ j := by rw [Int.pow_succ, Int.mul_comm]
    have e2 : (10 : Int) ^ (j + 1) / 10 = 10 ^ j := by rw [e]; exact Int.mul_ediv_cancel_left _ (by omega)
    rw [e2]
    exact ⟨⟨j, rfl⟩, e⟩
theorem ten_pos {p : Int} (h : Ten p) : 1 ≤ p := by
  obtain ⟨j, rfl⟩ := h
  have : (0 : Int) < 10 ^ j := Int.pow_pos (by omega)
  omega

/-- one digit more -/
theorem digit (b p : Int) (hp : 1 ≤ p) : b / p = b / (10 * p) * 10 + b / p % 10 := by
  have e : b / (10 * p) = b / p / 10 := by
    have h := Int.ediv_ediv (x := b) (y := p) (z := 10)
    rw [if_neg (by omega)] at h
    rw [Int.mul_comm, h]; omega
  rw [e]; omega

/-- what is gathered when i of the digit's turns are done -/
def pway (a b p i : Int) : Int := clip (a * (b / (10 * p)) * 10 + a * i)
theorem pway_zero (a b p : Int) (ha : 0 ≤ a) (hb : 0 ≤ b) (hp : 1 ≤ p) : pway a b p 0 = clip (clip (a * (b / (10 * p))) * 10) := by
  unfold pway
  rw [Int.mul_zero, Int.add_zero, clip_ten]
  exact Int.mul_nonneg ha (Int.ediv_nonneg hb (by omega))
theorem pway_step (a b p i : Int) (ha : 0 ≤ a) (hb : 0 ≤ b) (hp : 1 ≤ p) (hi : 0 ≤ i) : pway a b p (i + 1) = clip (pway a b p i + a) := by
  unfold pway
  have h1 : 0 ≤ a * (b / (10 * p)) := Int.mul_nonneg ha (Int.ediv_nonneg hb (by omega))
  have h2 : 0 ≤ a * i := Int.mul_nonneg ha hi
  rw [clip_sum _ _ (by omega) ha, Int.mul_add, Int.mul_one, Int.add_assoc]
theorem pway_last (a b p : Int) (hp : 1 ≤ p) : pway a b p (b / p % 10) = clip (a * (b / p)) := by
  unfold pway
  have e := digit b p hp
  have e2 : a * (b / p) = a * (b / (10 * p)) * 10 + a * (b / p % 10) := by
    have : a * (b / p) = a * (b / (10 * p) * 10 + b / p % 10) := congrArg (a * ·) e
    rw [this, Int.mul_add, Int.mul_assoc]
  rw [e2]
theorem pway_bd (a b p i : Int) (ha : 0 ≤ a) (hb : 0 ≤ b) (hp : 1 ≤ p) (hi : 0 ≤ i) : 0 ≤ pway a b p i ∧ pway a b p i ≤ 1000000000000000 := by
  have h1 : 0 ≤ a * (b / (10 * p)) := Int.mul_nonneg ha (Int.ediv_nonneg hb (by omega))
  have h2 : 0 ≤ a * i := Int.mul_nonneg ha hi
  exact ⟨clip_pos (by omega), (clip_bd _).2⟩

/-- what is gathered ahead of the digit at p (p a power of ten, or 0 behind the last one) -/
def sofar (a b p : Int) : Int := if p = 0 then clip (a * b) else clip (a * (b / (10 * p)))
theorem sofar_first (a b : Int) (hb : 0 ≤ b ∧ b ≤ 1000000000000000) : sofar a b 1000000000000000 = 0 := by
  unfold sofar
  rw [if_neg (by omega)]
  have e : b / (10 * 1000000000000000) = 0 := Int.ediv_eq_zero_of_lt hb.1 (by omega)
  rw [e, Int.mul_zero]; decide +kernel
theorem sofar_at (a b p : Int) (hp : 1 ≤ p) : sofar a b p = clip (a * (b / (10 * p))) := by
  unfold sofar; rw [if_neg (by omega)]
theorem sofar_next (a b p : Int) (ht : Ten p) : clip (a * (b / p)) = sofar a b (p / 10) := by
  have hp := ten_pos ht
  rcases ten_next ht with rfl | ⟨h1, h2⟩
  · have e : (1 : Int) / 10 = 0 := by decide
    rw [Int.ediv_one, e]; unfold sofar; rw [if_pos rfl]
  · have h3 := ten_pos h1
    unfold sofar; rw [if_neg (by omega), ← h2]
theorem sofar_bd (a b p : Int) (ha : 0 ≤ a) (hb : 0 ≤ b) (hp : 0 ≤ p) : 0 ≤ sofar a b p ∧ sofar a b p ≤ 1000000000000000 := by
  unfold sofar; split
  · exact ⟨clip_pos (Int.mul_nonneg ha hb), (clip_bd _).2⟩
  · exact ⟨clip_pos (Int.mul_nonneg ha (Int.ediv_nonneg hb (by omega))), (clip_bd _).2⟩

/-- a product by its signs and sizes -/
theorem mulc_minus (a b : Int) (h : (decide (a < 0) != decide (b < 0)) = true) : mulc a b = -clip (sz a * sz b) := by
  unfold mulc
  have hs := sz_mul a b
  rcases Int.lt_or_le a 0 with ha | ha <;> rcases Int.lt_or_le b 0 with hb | hb
  · simp [ha, hb] at h
  · have h5 : a * b ≤ 0 := Int.mul_nonpos_of_nonpos_of_nonneg (by omega) hb
    rw [← hs]
    rcases Int.lt_or_le (a * b) 0 with h' | h'
    · rw [sz_neg h']; unfold clip; repeat (first | omega | split)
    · rw [sz_pos h']; unfold clip; repeat (first | omega | split)
  · have h5 : a * b ≤ 0 := Int.mul_nonpos_of_nonneg_of_nonpos ha (by omega)
    rw [← hs]
    rcases Int.lt_or_le (a * b) 0 with h' | h'
    · rw [sz_neg h']; unfold clip; repeat (first | omega | split)
    · rw [sz_pos h']; unfold clip; repeat (first | omega | split)
  · have h6 : ¬ a < 0 := by omega
    have h7 : ¬ b < 0 := by omega
    simp [h6, h7] at h
theorem mulc_plus (a b : Int) (h : (decide (a < 0) != decide (b < 0)) = false) : mulc a b = clip (sz a * sz b) := by
  unfold mulc
  have hs := sz_mul a b
  rcases Int.lt_or_le a 0 with ha | ha <;> rcases Int.lt_or_le b 0 with hb | hb
  · have h5 := Int.mul_pos_of_neg_of_neg ha hb
    rw [← hs, sz_pos (by omega)]
  · have h7 : ¬ b < 0 := by omega
    simp [ha, h7] at h
  · have h6 : ¬ a < 0 := by omega
    simp [hb, h6] at h
  · rw [← hs, sz_pos (Int.mul_nonneg ha hb)]

theorem mulc_lim (a b : Int) : -1000000000000000 ≤ mulc a b ∧ mulc a b ≤ 1000000000000000 := clip_bd _

/-- the share by three parts -/
theorem share_three (A M : Int) : A * M / 1000 = A / 1000 * M + A % 1000 * (M / 1000) + A % 1000 * (M % 1000) / 1000 := by
  rw [share_parts]
  have e : A % 1000 * M = A % 1000 * (M % 1000) + 1000 * (A % 1000 * (M / 1000)) := by
    have h : M = M % 1000 + 1000 * (M / 1000) := by omega
    have h2 : A % 1000 * M = A % 1000 * (M % 1000 + 1000 * (M / 1000)) := congrArg (A % 1000 * ·) h
    rw [h2, Int.mul_add, Int.mul_left_comm]
  rw [e, Int.add_mul_ediv_left _ _ (by omega)]
  omega
theorem left_bd (A M : Int) : 0 ≤ A % 1000 * (M % 1000) ∧ A % 1000 * (M % 1000) ≤ 998001 := by
  have h1 : 0 ≤ A % 1000 := by omega
  have h2 : A % 1000 ≤ 999 := by omega
  have h3 : 0 ≤ M % 1000 := by omega
  have h4 : A % 1000 * (M % 1000) ≤ 999 * (M % 1000) := Int.mul_le_mul_of_nonneg_right h2 h3
  have h5 := Int.mul_nonneg h1 h3
  omega
theorem rshare_ok (A M : Int) (hA : 0 ≤ A ∧ A ≤ 1000000000000000) (hM : 0 ≤ M ∧ M ≤ 1000000000000000) :
    clip (clip (mulc (clip (A / 1000)) (clip M) + mulc (clip (A % 1000)) (clip (M / 1000))) + A % 1000 * (M % 1000) / 1000) = share A M := by
  have hl := left_bd A M
  rw [clip_in (n := A / 1000) (by omega) (by omega), clip_in (n := M) (by omega) (by omega), clip_in (n := A % 1000) (by omega) (by omega), clip_in (n := M / 1000) (by omega) (by omega)]
  have h1 : 0 ≤ A / 1000 * M := Int.mul_nonneg (by omega) hM.1
  have h2 : 0 ≤ A % 1000 * (M / 1000) := Int.mul_nonneg (by omega) (by omega)
  have h3 : A % 1000 * (M / 1000) ≤ 999 * (M / 1000) := Int.mul_le_mul_of_nonneg_right (by omega) (by omega)
  unfold mulc
  rw [clip_in (n := A % 1000 * (M / 1000)) (by omega) (by omega), clip_sum _ _ h1 h2, clip_sum _ _ (by omega) (by omega)]
  unfold share
  rw [share_three A M]

end Plain
end Go.Proofs.Ytanlhkokghjadac
