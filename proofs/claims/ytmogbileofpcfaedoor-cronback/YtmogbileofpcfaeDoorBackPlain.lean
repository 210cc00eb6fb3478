/- The text of a set is read back: plain mathematics. -/
import Derived.Test.YtmogbileofpcfaeDoorParsePlain
import Derived.Test.YtmogbileofpcfaeDoorTextPlain
namespace Go.Proofs.YtmogbileofpcfaeDoor
namespace Pie
open Crn

theorem byte_of {n : Nat} (h : n < 256) : (UInt8.ofNat n).toNat = n := by simp [UInt8.toNat_ofNat']; omega
theorem dec_dg {n : Nat} (h : n < 100) : ∀ x ∈ Lib.decDigits n, dg x = true := by
  intro x hx
  by_cases g : n < 10
  · rw [Lib.decDigits_one g, List.mem_singleton] at hx
    subst hx
    unfold dg; rw [byte_of (by omega), decide_eq_true_eq]; omega
  · rw [Lib.decDigits_two g h] at hx
    simp only [List.mem_cons, List.not_mem_nil, or_false] at hx
    rcases hx with rfl | rfl
    · unfold dg; rw [byte_of (by omega), decide_eq_true_eq]; omega
    · unfold dg; rw [byte_of (by omega), decide_eq_true_eq]; omega
theorem dec_num {n : Nat} (h : n < 100) : num2 (Lib.decDigits n) = some (n : Int) := by
  have hd := dec_dg h
  by_cases g : n < 10
  · rw [Lib.decDigits_one g] at hd ⊢
    unfold num2
    dsimp only
    rw [if_pos (hd _ (by simp)), byte_of (by omega)]
    congr 1; omega
  · rw [Lib.decDigits_two g h] at hd ⊢
    unfold num2
    dsimp only
    rw [if_pos ⟨hd _ (by simp), hd _ (by simp)⟩, byte_of (by omega), byte_of (by omega)]
    congr 1; omega
theorem dec_no {n : Nat} {c : UInt8} (h : n < 100) (hc : dg c = false) : c ∉ Lib.decDigits n := fun g => by rw [dec_dg h c g] at hc; cases hc
theorem dec_ne {n : Nat} (h : n < 100) : Lib.decDigits n ≠ [42] := fun e => by
  have := dec_dg h 42 (by rw [e]; simp)
  revert this; decide
/-- a row is read back -/
theorem row_item {lo hi a b : Int} (h0 : 0 ≤ a) (h1 : lo ≤ a) (h2 : a ≤ b) (h3 : b ≤ hi) (h4 : b < 100) : itemS lo hi (rowT (a, b)) = some (a, b, 1) := by
  obtain ⟨A, rfl⟩ := Int.eq_ofNat_of_zero_le h0
  obtain ⟨B, rfl⟩ := Int.eq_ofNat_of_zero_le (show 0 ≤ b by omega)
  have hA : A < 100 := by omega
  have hB : B < 100 := by omega
  unfold rowT
  dsimp only
  rw [Int.toNat_natCast, Int.toNat_natCast]
  by_cases e : (A : Int) = (B : Int)
  · rw [if_pos e]
    have e' : A = B := by omega
    subst e'
    unfold itemS
    rw [cutS_none (dec_no hA (by decide))]
    dsimp only
    have : rowS lo hi (Lib.decDigits A) = some ((A : Int), (A : Int), true) := by
      unfold rowS
      rw [if_neg (dec_ne hA), cutS_none (dec_no hA (by decide))]
      dsimp only
      rw [dec_num hA]
      dsimp only
      rw [if_pos (by omega)]
    rw [this]
  · rw [if_neg e]
    have e1 : Lib.decDigits A ++ [45] ++ Lib.decDigits B = Lib.decDigits A ++ 45 :: Lib.decDigits B := by simp
    rw [e1]
    have n47 : (47 : UInt8) ∉ Lib.decDigits A ++ 45 :: Lib.decDigits B := by
      intro g
      rcases List.mem_append.1 g with g | g
      · exact dec_no hA (by decide) g
      · rcases List.mem_cons.1 g with g | g
        · revert g; decide
        · exact dec_no hB (by decide) g
    have ne : Lib.decDigits A ++ 45 :: Lib.decDigits B ≠ [42] := fun e => by
      have : (45 : UInt8) ∈ ([42] : List UInt8) := by rw [← e]; simp
      simp at this
    unfold itemS
    rw [cutS_none n47]
    dsimp only
    have : rowS lo hi (Lib.decDigits A ++ 45 :: Lib.decDigits B) = some ((A : Int), (B : Int), false) := by
      unfold rowS
      rw [if_neg ne, cutS_hit (dec_no hA (by decide))]
      dsimp only
      rw [dec_num hA, dec_num hB]
      dsimp only
      rw [if_pos (by omega)]
    rw [this]
theorem row_no {a b : Int} {c : UInt8} (ha : 0 ≤ a ∧ a < 100) (hb : 0 ≤ b ∧ b < 100) (hc : dg c = false) (h45 : c ≠ 45) : c ∉ rowT (a, b) := by
  unfold rowT
  dsimp only
  intro g
  split at g
  · exact dec_no (by omega) hc g
  · simp only [List.mem_append, List.mem_singleton] at g
    rcases g with (g | g) | g
    · exact dec_no (by omega) hc g
    · exact h45 g
    · exact dec_no (by omega) hc g
/-- what was joined is cut again -/
theorem pieces_join (c : UInt8) : ∀ (x : List UInt8) (r : List (List UInt8)), (∀ y ∈ x :: r, c ∉ y) → pieces c (Lib.join (x :: r) [c]) = x :: r
  | x, [], h => by rw [Lib.join_one]; exact pieces_none (h x (by simp))
  | x, y :: r, h => by
    have e : Lib.join (x :: y :: r) [c] = x ++ c :: Lib.join (y :: r) [c] := by
      rw [Lib.join_cons, Lib.join_cons]
      simp [Lib.joinTail]
    rw [e, pieces_hit (h x (by simp)), pieces_join c y r (fun z hz => h z (by simp only [List.mem_cons] at hz ⊢; exact Or.inr hz))]
theorem rows_mono (s : Int) : ∀ (k n : Nat) (p : Int × Int), p ∈ rowsU s n → p ∈ rowsU s (n + k)
  | 0, n, p, h => h
  | k + 1, n, p, h => by
    have e : rowsU s (n + (k + 1)) = rowsU s (n + k) ++ (if isSt s ((n + k : Nat) : Int) = true then [(((n + k : Nat) : Int), endOf s ((n + k : Nat) : Int))] else []) := rfl
    rw [e, List.mem_append]; exact Or.inl (rows_mono s k n p h)
section
variable {s : Int} (hs : 0 ≤ s ∧ s ≤ 18446744073709551615) (h60 : ∀ n, inS s n = true → n ≤ 59)
include hs h60
/-- what a row of a set is -/
theorem rows_are : ∀ (k : Nat) (p : Int × Int), p ∈ rowsU s k → 0 ≤ p.1 ∧ p.1 ≤ p.2 ∧ p.2 ≤ 59 ∧ p.1 < k ∧ (∀ n, p.1 ≤ n → n ≤ p.2 → inS s n = true) ∧ inS s (p.2 + 1) = false
  | 0, p, h => by cases h
  | k + 1, p, h => by
    have e : rowsU s (k + 1) = rowsU s k ++ (if isSt s (k : Int) = true then [((k : Int), endOf s k)] else []) := rfl
    rw [e, List.mem_append] at h
    rcases h with h | h
    · obtain ⟨a, b, c, d, f, g⟩ := rows_are k p h
      exact ⟨a, b, c, by omega, f, g⟩
    · by_cases g : isSt s (k : Int) = true
      · rw [if_pos g, List.mem_singleton] at h
        subst h
        unfold isSt at g
        rw [Bool.and_eq_true] at g
        obtain ⟨e1, e2, e3, e4, e5⟩ := end_spec hs h60 g.1
        unfold endOf
        refine ⟨by dsimp only; omega, by dsimp only; omega, by dsimp only; omega, by dsimp only; omega, fun n h1 h2 => e5 n h1 (by dsimp only at h2; omega), ?_⟩
        dsimp only
        rw [show frm (ntS s) (k : Int) - 1 + 1 = frm (ntS s) (k : Int) by omega]; exact e4
      · rw [if_neg g] at h; cases h
/-- each number of a set lies in a row -/
theorem rows_all : ∀ (n : Nat), inS s (n : Int) = true → ∃ p, p ∈ rowsU s (n + 1) ∧ p.1 ≤ n ∧ (n : Int) ≤ p.2
  | n, h => by
    have e : rowsU s (n + 1) = rowsU s n ++ (if isSt s (n : Int) = true then [((n : Int), endOf s n)] else []) := rfl
    cases g : isSt s (n : Int)
    · cases n with
      | zero =>
        unfold isSt at g
        rw [h, inS_neg s _ (by omega)] at g
        cases g
      | succ n =>
        have hp : inS s (n : Int) = true := by
          unfold isSt at g
          rw [h] at g
          have e2 : (((n + 1 : Nat) : Int) - 1) = (n : Int) := by omega
          rw [e2] at g
          cases q : inS s (n : Int)
          · rw [q] at g; cases g
          · rfl
        obtain ⟨p, h1, h2, h3⟩ := rows_all n hp
        obtain ⟨a1, a2, a3, a4, a5, a6⟩ := rows_are hs h60 (n + 1) p h1
        refine ⟨p, by rw [e, List.mem_append]; exact Or.inl h1, by omega, ?_⟩
        rcases Int.lt_or_le p.2 ((n + 1 : Nat) : Int) with q | q
        · exfalso
          have e3 : p.2 + 1 = ((n + 1 : Nat) : Int) := by omega
          rw [e3, h] at a6; cases a6
        · exact q
    · have e5 := (end_spec hs h60 (show inS s (n : Int) = true from h)).2.1
      refine ⟨((n : Int), endOf s n), by rw [e, g, List.mem_append]; exact Or.inr (by simp), Int.le_refl _, ?_⟩
      unfold endOf; dsimp only; omega
/-- the rows of a set are the set -/
theorem rows_set (K : Nat) (hK : 60 ≤ K) : SetIs ((rowsU s K).map fun p => (p.1, p.2, 1)) s := by
  refine ⟨hs, fun n => ?_⟩
  rw [List.any_map]
  cases h : inS s n
  · rw [eq_comm, List.any_eq_false]
    intro p hp hq
    obtain ⟨a1, a2, a3, a4, a5, a6⟩ := rows_are hs h60 K p hp
    simp only [Function.comp, inI, decide_eq_true_eq] at hq
    rw [a5 n hq.1 hq.2.1] at h; cases h
  · rw [eq_comm, List.any_eq_true]
    have b := inS_bd h
    have c := h60 n h
    obtain ⟨N, rfl⟩ := Int.eq_ofNat_of_zero_le b.1
    obtain ⟨p, h1, h2, h3⟩ := rows_all hs h60 N h
    refine ⟨p, ?_, ?_⟩
    · have := rows_mono s (K - (N + 1)) (N + 1) p h1
      rwa [show N + 1 + (K - (N + 1)) = K by omega] at this
    · simp only [Function.comp, inI, decide_eq_true_eq]
      exact ⟨h2, h3, Int.emod_one _⟩
end
end Pie
end Go.Proofs.YtmogbileofpcfaeDoor
