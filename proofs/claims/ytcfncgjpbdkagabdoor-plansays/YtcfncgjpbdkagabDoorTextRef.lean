/- What the document's way of printing a set needs: a row's end, a row more, a slice that nobody touches. -/
import Derived.Test.YtcfncgjpbdkagabDoorTextWalks
namespace Go.Proofs.YtcfncgjpbdkagabDoor
namespace RCrn
open Go.RowKit Lai Civ Crn

theorem end_is {s n l : Int} (hs : 0 ≤ s ∧ s ≤ 18446744073709551615) (h60 : ∀ n, inS s n = true → n ≤ 59) (hnl : n ≤ l) (h : ∀ j, n ≤ j → j ≤ l → inS s j = true) (hl : inS s (l + 1) = false) : endOf s n = l := by
  obtain ⟨_, e2, _, e4, e5⟩ := end_spec hs h60 (h n (by omega) hnl)
  unfold endOf
  rcases Int.lt_trichotomy (frm (ntS s) n) (l + 1) with g | g | g
  · rw [h _ (by omega) (by omega)] at e4; cases e4
  · omega
  · rw [e5 (l + 1) (by omega) g] at hl; cases hl
theorem rowsT_step (s : Int) (n : Nat) : rowsT s (n + 1) = rowsT s n ++ (if isSt s (n : Int) = true then [rowT ((n : Int), endOf s n)] else []) := by
  unfold rowsT
  have e : rowsU s (n + 1) = rowsU s n ++ (if isSt s (n : Int) = true then [((n : Int), endOf s n)] else []) := rfl
  rw [e, List.map_append]
  split <;> rfl
/-- a slice of an elder block is as it was -/
theorem own_below {w w' : World} {base B : Nat} {e : TypeId} {size n : Nat} {v : Value} {xs : List Value} (h : w.ownsRow base e size v n xs) (hb : Below B w w') (hv : ∀ g, v.ownBlock = some g → g < B) : w'.ownsRow base e size v n xs := by
  refine ⟨h.1, ?_⟩
  rcases h.2 with h | ⟨g, cap, cur, h1, h2, h3, h4⟩
  · exact Or.inl h
  · refine Or.inr ⟨g, cap, cur, h1, h2, ?_, h4⟩
    rw [hb.block g (hv g (by rw [h1]; rfl))]; exact h3
/-- are all numbers from lo up to n - 1 in the set? -/
theorem full_star {s full lo hi : Int} (hs : 0 ≤ s ∧ s ≤ 18446744073709551615) (hF : 0 ≤ full ∧ full ≤ 18446744073709551615) (hf : ∀ n, inS full n = decide (lo ≤ n ∧ n ≤ hi)) (hsub : ∀ n, inS s n = true → lo ≤ n ∧ n ≤ hi) (b : Bool) (hb : b = true ↔ ∀ j, lo ≤ j → j ≤ hi → inS s j = true) : b = (s == full) := by
  rw [Bool.eq_iff_iff, hb, beq_iff_eq]
  constructor
  · intro h
    refine u_ext _ _ hs hF fun n => ?_
    rw [hf]
    cases g : inS s n
    · rw [eq_comm, decide_eq_false_iff_not]
      intro q
      rw [h n q.1 q.2] at g; cases g
    · rw [eq_comm, decide_eq_true_eq]; exact hsub n g
  · intro e j h1 h2
    rw [e, hf, decide_eq_true_eq]; exact ⟨h1, h2⟩
end RCrn
end Go.Proofs.YtcfncgjpbdkagabDoor
