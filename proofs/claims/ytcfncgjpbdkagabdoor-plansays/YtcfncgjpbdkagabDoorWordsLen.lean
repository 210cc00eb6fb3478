/- How long a cron's words are; Print of a wrong cron. -/
import Derived.Test.YtcfncgjpbdkagabDoorRefText1
import Derived.Test.YtcfncgjpbdkagabDoorPrintWalk
namespace Go.Proofs.YtcfncgjpbdkagabDoor
namespace RCrn
open Go.RowKit Lai Civ Cal Crn RCiv
set_option maxRecDepth 8000

theorem print_no (mi ho da mn we : Int) (ad aw : Bool) (w : World) (hB : BdsAt w) (hc : chkB mi ho da mn we ad aw = false) :
    Calls Tryd.prog 62 #[cronV mi ho da mn we ad aw] w fun e w' => e = .returned (.tuple #[.string ⟨#[]⟩, .int .i64 1]) ∧ Below w.heap.size w w' := by
  have hB2 := fun o => hB.below (balloc o) (Nat.le_refl _)
  go_enter Tryd.func62, Tryd.ntmps62
  go_wp2_with (go_at_call 21; (with_reducible refine (check_no _ _ _ _ _ _ _ _ (hB2 _) hc).mono ?_); rintro e w1 ⟨rfl, hb1⟩)
  go_ret2
  exact ⟨rfl, (balloc _).trans (hb1.mono (by simp))⟩

theorem row_len5 {s : Int} (hs : U s) (h60 : ∀ n, inS s n = true → n ≤ 59) : ∀ k : Nat, ∀ p ∈ rowsU s k, (rowT p).length ≤ 5
  | 0, p, hp => by cases hp
  | k + 1, p, hp => by
    have e : rowsU s (k + 1) = rowsU s k ++ (if isSt s (k : Int) = true then [((k : Int), endOf s k)] else []) := rfl
    rw [e, List.mem_append] at hp
    rcases hp with hp | hp
    · exact row_len5 hs h60 k p hp
    · by_cases g : isSt s (k : Int) = true
      · rw [if_pos g, List.mem_singleton] at hp
        subst hp
        unfold isSt at g
        rw [Bool.and_eq_true] at g
        obtain ⟨e1, e2, e3, _⟩ := end_spec hs h60 g.1
        have := inS_bd g.1
        have l1 := dec_len (k : Int).toNat (by omega)
        have l2 := dec_len (endOf s k).toNat (by unfold endOf; omega)
        unfold rowT
        dsimp only
        split
        · omega
        · simp only [List.length_append, List.length_cons, List.length_nil]; omega
      · rw [if_neg g] at hp; cases hp
theorem word_len {s lo hi : Int} (star : Bool) (hs : U s) (hsub : ∀ n, inS s n = true → lo ≤ n ∧ n ≤ hi) (hl : 0 ≤ lo ∧ lo ≤ 1 ∧ lo < hi ∧ hi ≤ 59) : (wordT s star).length ≤ 1000 := by
  cases star
  · rw [word_hi hs hl.1 hl.2.2.1 hl.2.2.2 hsub]
    have h5 : ∀ x ∈ rowsT s (hi + 1).toNat, x.length ≤ 5 := by
      intro x hx
      unfold rowsT at hx
      rw [List.mem_map] at hx
      obtain ⟨p, hp, rfl⟩ := hx
      exact row_len5 hs (fun n h => by have := hsub n h; omega) _ p hp
    have h1 := join_len [44] 5 (rowsT s (hi + 1).toNat) h5
    have h2 : (rowsT s (hi + 1).toNat).length ≤ 64 := by unfold rowsT; rw [List.length_map]; have := rows_len s (hi + 1).toNat; omega
    have h3 : (rowsT s (hi + 1).toNat).length * (([44] : List UInt8).length + 5) ≤ 64 * 6 := Nat.mul_le_mul h2 (by decide)
    omega
  · rw [word_st]; decide
theorem words_len {mi ho da mn we : Int} {ad aw : Bool} (b0 : U mi) (b1 : U ho) (b2 : U da) (b3 : U mn) (b4 : U we) (hc : chkB mi ho da mn we ad aw = true) : ∀ j, (wds mi ho da mn we ad aw j).length ≤ 1000 := by
  have key : ∀ k, k < 5 → (wds mi ho da mn we ad aw k).length ≤ 1000 := fun k hk => by
    obtain ⟨h1, h2⟩ := set_k (good_of b0 b1 b2 b3 b4 hc) b0 b1 b2 b3 b4 hk
    rw [wds_k hk]
    exact word_len _ h1 h2 (lim_k hk)
  intro j
  match j with
  | 0 => exact key 0 (by decide)
  | 1 => exact key 1 (by decide)
  | 2 => exact key 2 (by decide)
  | 3 => exact key 3 (by decide)
  | j + 4 => exact key 4 (by decide)
theorem cron_len {mi ho da mn we : Int} {ad aw : Bool} (hl : ∀ j, (wds mi ho da mn we ad aw j).length ≤ 1000) : (cronT (wds mi ho da mn we ad aw)).length ≤ 7000 := by
  unfold cronT
  have := join_len [32] 1000 [wds mi ho da mn we ad aw 0, wds mi ho da mn we ad aw 1, wds mi ho da mn we ad aw 2, wds mi ho da mn we ad aw 3, wds mi ho da mn we ad aw 4] (fun x hx => by
    simp only [List.mem_cons, List.not_mem_nil, or_false] at hx
    rcases hx with rfl | rfl | rfl | rfl | rfl <;> exact hl _)
  simp only [List.length_cons, List.length_nil] at this
  omega
end RCrn
end Go.Proofs.YtcfncgjpbdkagabDoor
