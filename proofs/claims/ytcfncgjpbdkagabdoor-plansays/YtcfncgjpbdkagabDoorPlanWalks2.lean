/- What plan.Check answers: triggers. -/
import Derived.Test.YtcfncgjpbdkagabDoorPlanWalks
namespace Go.Proofs.YtcfncgjpbdkagabDoor
namespace Pln
open Go.RowKit Lai Civ Crn
set_option maxRecDepth 8000

theorem scheck_any (a b : K) (w : World) (hB : BdsAt w) : Calls Tryd.prog 7 #[spanV a b] w fun e w' => e = .returned (.int .i64 (if kc a = true ∧ kc b = true then 0 else 1)) ∧ Below w.heap.size w w' := by
  by_cases h : kc a = true ∧ kc b = true
  · rw [if_pos h]; exact scheck_yes a b w hB h.1 h.2
  · rw [if_neg h]
    refine scheck_no a b w hB ?_
    cases ha : kc a
    · exact Or.inl rfl
    · cases hb : kc b
      · exact Or.inr rfl
      · exact absurd ⟨ha, hb⟩ h
/-- what checkTrigger tells -/
def trE (t : Tr) : Int := if trB t = true then 0 else 1
set_option maxHeartbeats 4000000 in
theorem ctrig_span (t : Tr) (w : World) (hB : BdsAt w) (hk : t.k = 3) :
    Calls Tryd.prog 38 #[trV t] w fun e w' => e = .returned (.int .i64 (trE t)) ∧ Below w.heap.size w w' := by
  obtain ⟨k, tg, ac, a, b⟩ := t
  dsimp only at hk
  subst hk
  have HN : Hid (trE ⟨3, tg, ac, a, b⟩ = if rg tg 1 50 = true ∧ ac = 0 ∧ kc a = true ∧ kc b = true then 0 else 1) := by
    unfold Hid trE trB
    dsimp only
    rw [if_pos rfl]
    simp only [Bool.and_eq_true, decide_eq_true_eq]
  have cw := fun n lo hi w => within_any n lo hi w
  have cs := fun w hB => scheck_any a b w hB
  have hB2 := fun o => hB.below (balloc o) (Nat.le_refl _)
  by_cases hac : ac = 0
  · subst hac
    go_enter Tryd.func38, Tryd.ntmps38
    go_wp2_with (first
      | (go_at_call 63; (with_reducible refine (cw _ _ _ _).mono ?_); rintro e w1 ⟨rfl, rfl⟩)
      | (go_at_call 7; (with_reducible refine (cs _ (hB2 _)).mono ?_); rintro e w1 ⟨rfl, hb1⟩))
    all_goals
      go_ret
      clear cw cs hB2
      first
        | exact ⟨ret_n (by rw [HN.out]; simp [*]), balloc _⟩
        | exact ⟨ret_n (by rw [HN.out]; simp [*]), (balloc _).trans (hb1.mono (by simp))⟩
  · have hne : (ac != 0) = true := by rw [bne_iff_ne]; exact hac
    go_enter Tryd.func38, Tryd.ntmps38
    go_wp2_with (first
      | (go_at_call 63; (with_reducible refine (cw _ _ _ _).mono ?_); rintro e w1 ⟨rfl, rfl⟩)
      | (go_at_call 7; (with_reducible refine (cs _ (hB2 _)).mono ?_); rintro e w1 ⟨rfl, hb1⟩))
    all_goals
      go_ret
      clear cw cs hB2
      exact ⟨ret_n (by rw [HN.out]; simp [*]), balloc _⟩
set_option maxHeartbeats 4000000 in
theorem ctrig_two (k tg ac : Int) (a b : K) (w : World) (hk : k = 1 ∨ k = 2) :
    Calls Tryd.prog 38 #[trV ⟨k, tg, ac, a, b⟩] w fun e w' => e = .returned (.int .i64 (trE ⟨k, tg, ac, a, b⟩)) ∧ Below w.heap.size w w' := by
  have HN : Hid (trE ⟨k, tg, ac, a, b⟩ = if rg tg 1 1000000 = true ∧ rg ac 0 1000000 = true ∧ zK a = true ∧ zK b = true then 0 else 1) := by
    unfold Hid trE trB
    dsimp only
    rw [if_neg (show ¬ k = 3 by omega)]
    simp only [Bool.and_eq_true, decide_eq_true_eq]
    simp only [hk, true_and]
  have cw := fun n lo hi w => within_any n lo hi w
  obtain ⟨a0, a1, a2, a3, a4, a5, a6⟩ := a
  obtain ⟨b0, b1, b2, b3, b4, b5, b6⟩ := b
  go_enter Tryd.func38, Tryd.ntmps38
  rcases hk with rfl | rfl
  all_goals
    go_wp2_with (first
      | (go_at_call 63; (with_reducible refine (cw _ _ _ _).mono ?_); rintro e w1 ⟨rfl, rfl⟩))
    all_goals
      go_ret
      clear cw
      exact ⟨ret_n (by rw [HN.out]; simp [zK, *]), balloc _⟩
theorem ctrig_other (k tg ac : Int) (a b : K) (w : World) (h1 : k ≠ 1) (h2 : k ≠ 2) (h3 : k ≠ 3) :
    Calls Tryd.prog 38 #[trV ⟨k, tg, ac, a, b⟩] w fun e w' => e = .returned (.int .i64 (trE ⟨k, tg, ac, a, b⟩)) ∧ Below w.heap.size w w' := by
  have HN : Hid (trE ⟨k, tg, ac, a, b⟩ = 1) := by
    unfold Hid trE trB
    dsimp only
    rw [if_neg h3]
    simp [h1, h2]
  have d1 : (k == 1) = false := by rw [beq_eq_false_iff_ne]; exact h1
  have d2 : (k == 2) = false := by rw [beq_eq_false_iff_ne]; exact h2
  have d3 : (k == 3) = false := by rw [beq_eq_false_iff_ne]; exact h3
  go_enter Tryd.func38, Tryd.ntmps38
  go_wp2
  go_ret
  exact ⟨ret_n HN.out.symm, balloc _⟩
theorem ctrig_any (t : Tr) (w : World) (hB : BdsAt w) :
    Calls Tryd.prog 38 #[trV t] w fun e w' => e = .returned (.int .i64 (trE t)) ∧ Below w.heap.size w w' := by
  by_cases h3 : t.k = 3
  · exact ctrig_span t w hB h3
  · obtain ⟨k, tg, ac, a, b⟩ := t
    by_cases h1 : k = 1
    · exact ctrig_two k tg ac a b w (Or.inl h1)
    · by_cases h2 : k = 2
      · exact ctrig_two k tg ac a b w (Or.inr h2)
      · exact ctrig_other k tg ac a b w h1 h2 h3
end Pln
end Go.Proofs.YtcfncgjpbdkagabDoor
