/- What cron.Match answers, at every input. -/
import Derived.Test.YtmogbileofpcfaaDoorCronMatch2
namespace Go.Proofs.YtmogbileofpcfaaDoor
namespace Crn
open Go.RowKit Lai Civ

theorem match_no (mi ho da mo we : Int) (ad aw : Bool) (y m d h i s k : Int) (w : World) (hB : BdsAt w) (hc : chkB mi ho da mo we ad aw = false) :
    Calls Tryd.prog 10 #[cronV mi ho da mo we ad aw, civ y m d h i s k] w fun e w' => e = .returned (.tuple #[.bool false, .int .i64 1]) ∧ Below w.heap.size w w' := by
  have hB2 := fun o p => hB.below (balloc2 o p) (Nat.le_refl _)
  go_enter Tryd.func10, Tryd.ntmps10
  go_wp2_with (go_at_call 11; with_reducible refine (check_no _ _ _ _ _ _ _ _ (hB2 _ _) hc).mono ?_; rintro e w1 ⟨rfl, hb1⟩)
  go_ret2
  exact ⟨rfl, ballocs hb1⟩

set_option maxRecDepth 20000 in
set_option maxHeartbeats 4000000 in
theorem match_yes (mi ho da mo we : Int) (ad aw : Bool) (y m d h i s k : Int) (w : World) (hB : BdsAt w) (hc : chkB mi ho da mo we ad aw = true)
    (b0 : U mi) (b1 : U ho) (b2 : U da) (b3 : U mo) (b4 : U we) (bm : I m) (bd : I d) (bh : I h) (bi : I i) (bk : I k) :
    Calls Tryd.prog 10 #[cronV mi ho da mo we ad aw, civ y m d h i s k] w fun e w' => e = .returned (.tuple #[.bool (mtB mi ho da mo we ad aw m d h i k), .int .i64 0]) ∧ Below w.heap.size w w' := by
  have hB2 := fun o p => hB.below (balloc2 o p) (Nat.le_refl _)
  unfold mtB
  cases h1 : dayB da mo we ad aw m d k <;> cases h2 : inS ho h <;> cases h3 : inS mi i
  all_goals
    have c1 := fun w => day_any mi ho da mo we ad aw y m d h i s k w b2 b3 b4 bm bd bk
    have c2 := has_any ho h (h0 := b1) (hn := bh)
    have c3 := has_any mi i (h0 := b0) (hn := bi)
    rw [h1] at c1; rw [h2] at c2; rw [h3] at c3
    clear h1 h2 h3
    go_enter Tryd.func10, Tryd.ntmps10
    go_wp2_with (first
      | (go_at_call 11; with_reducible refine (check_yes _ _ _ _ _ _ _ _ (hB2 _ _) hc).mono ?_; rintro e w1 ⟨rfl, hb1⟩; obtain ⟨hc1, hf1⟩ := bcell hb1; have hz1 : w.heap.size < w1.heap.size := (by have := hb1.size; simp at this; omega); have hz2 : w.heap.size + 1 < w1.heap.size := (by have := hb1.size; simp at this; omega))
      | (go_at_call 27; with_reducible refine (c1 _).mono ?_; rintro e w2 ⟨rfl, hb2⟩; obtain ⟨hc2, hf2⟩ := bcell hb2)
      | (go_at_call 28; with_reducible refine (c2 _).mono ?_; rintro e w3 ⟨rfl, rfl⟩)
      | (go_at_call 28; with_reducible refine (c3 _).mono ?_; rintro e w3 ⟨rfl, rfl⟩))
    go_ret2
    exact ⟨rfl, (ballocs hb1).trans (hb2.mono (by omega))⟩
end Crn
end Go.Proofs.YtmogbileofpcfaaDoor
