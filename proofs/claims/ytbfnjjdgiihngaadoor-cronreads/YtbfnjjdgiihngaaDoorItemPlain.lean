/- An item, read by its pieces: it is the same. -/
import Derived.Test.YtbfnjjdgiihngaaDoorRefDigits
namespace Go.Proofs.YtbfnjjdgiihngaaDoor
namespace Pie
open Crn

theorem dgV_bd (t : List UInt8) : -1 ≤ dgV t ∧ dgV t ≤ 99 := by
  unfold dgV
  cases h : num2 t with
  | none => decide
  | some n => have := num2_bd h; dsimp only; omega
theorem row_no45 {lo hi : Int} {t : List UInt8} (h0 : 0 ≤ lo) (hs : t ≠ [42]) (hc : (45 : UInt8) ∉ t) :
    (¬ (dgV t < lo ∨ hi < dgV t) → rowS lo hi t = some (dgV t, dgV t, true)) ∧ ((dgV t < lo ∨ hi < dgV t) → rowS lo hi t = none) := by
  unfold rowS dgV
  rw [if_neg hs, cutS_none hc]
  dsimp only
  cases h : num2 t with
  | none => exact ⟨fun g => absurd (Or.inl (by dsimp only; omega)) g, fun _ => rfl⟩
  | some n =>
    dsimp only
    exact ⟨fun g => if_pos (by omega), fun g => if_neg (by omega)⟩
theorem row_one45 {lo hi : Int} {u v : List UInt8} (h0 : 0 ≤ lo) (hu : (45 : UInt8) ∉ u) :
    (¬ (dgV u < lo ∨ hi < dgV v ∨ dgV v < dgV u) → rowS lo hi (u ++ 45 :: v) = some (dgV u, dgV v, false)) ∧ ((dgV u < lo ∨ hi < dgV v ∨ dgV v < dgV u) → rowS lo hi (u ++ 45 :: v) = none) := by
  have hs : u ++ 45 :: v ≠ [42] := fun e => by
    have : (45 : UInt8) ∈ ([42] : List UInt8) := by rw [← e]; simp
    simp at this
  unfold rowS dgV
  rw [if_neg hs, cutS_hit hu]
  dsimp only
  cases h : num2 u with
  | none => exact ⟨fun g => absurd (Or.inl (by dsimp only; omega)) g, fun _ => rfl⟩
  | some a =>
    have ha := num2_bd h
    cases h2 : num2 v with
    | none => exact ⟨fun g => absurd (Or.inr (Or.inr (by dsimp only; omega))) g, fun _ => rfl⟩
    | some b =>
      dsimp only
      exact ⟨fun g => if_pos (by omega), fun g => if_neg (by omega)⟩
theorem row_more45 {lo hi : Int} {u v : List UInt8} (hu : (45 : UInt8) ∉ u) (hv : (45 : UInt8) ∈ v) : rowS lo hi (u ++ 45 :: v) = none := by
  have hs : u ++ 45 :: v ≠ [42] := fun e => by
    have : (45 : UInt8) ∈ ([42] : List UInt8) := by rw [← e]; simp
    simp at this
  unfold rowS
  rw [if_neg hs, cutS_hit hu]
  dsimp only
  rw [num2_not (c := 45) (by decide) hv]
  cases num2 u <;> rfl
theorem item_more47 {lo hi : Int} {x y : List UInt8} (hx : (47 : UInt8) ∉ x) (hy : (47 : UInt8) ∈ y) : itemS lo hi (x ++ 47 :: y) = none := by
  unfold itemS
  rw [cutS_hit hx]
  dsimp only
  rw [num2_not (c := 47) (by decide) hy]
  cases rowS lo hi x with
  | none => rfl
  | some p => obtain ⟨a, b, s⟩ := p; cases s <;> rfl
theorem item_0 {lo hi : Int} {t : List UInt8} (h : (47 : UInt8) ∉ t) : (∀ a b s, rowS lo hi t = some (a, b, s) → itemS lo hi t = some (a, b, 1)) ∧ (rowS lo hi t = none → itemS lo hi t = none) := by
  unfold itemS
  rw [cutS_none h]
  dsimp only
  exact ⟨fun a b s e => by rw [e], fun e => by rw [e]⟩
theorem item_1 {lo hi : Int} {x y : List UInt8} (hx : (47 : UInt8) ∉ x) :
    (∀ a b, 1 ≤ dgV y → rowS lo hi x = some (a, b, false) → itemS lo hi (x ++ 47 :: y) = some (a, b, dgV y)) ∧ (dgV y < 1 → itemS lo hi (x ++ 47 :: y) = none) ∧ (rowS lo hi x = none → itemS lo hi (x ++ 47 :: y) = none) ∧ (∀ a b, rowS lo hi x = some (a, b, true) → itemS lo hi (x ++ 47 :: y) = none) := by
  unfold itemS dgV
  rw [cutS_hit hx]
  dsimp only
  refine ⟨fun a b h e => ?_, fun h => ?_, fun e => by rw [e], fun a b e => by rw [e]⟩
  · rw [e]
    cases h2 : num2 y with
    | none => rw [h2] at h; exact absurd h (by decide)
    | some st => rw [h2] at h; dsimp only at h ⊢; rw [if_pos h]
  · cases h2 : num2 y with
    | none =>
      cases rowS lo hi x with
      | none => rfl
      | some p => obtain ⟨a, b, s⟩ := p; cases s <;> rfl
    | some st =>
      rw [h2] at h
      dsimp only at h
      cases h3 : rowS lo hi x with
      | none => rfl
      | some p =>
        obtain ⟨a, b, s⟩ := p
        cases s
        · dsimp only; rw [if_neg (by omega)]
        · rfl
end Pie
end Go.Proofs.YtbfnjjdgiihngaaDoor
