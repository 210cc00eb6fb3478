/- A cron as one thing; what span.Check answers. -/
import Derived.Test.YtbnnplfmhmmbnahDoorPk7
import Derived.Test.YtbnnplfmhmmbnahDoorPk6
import Derived.Test.YtbnnplfmhmmbnahDoorPk2
namespace Go.Proofs.YtbnnplfmhmmbnahDoor
namespace Crn
open Go.RowKit Lai Civ
set_option maxRecDepth 8000

section
variable (a b : K) (w : World)
set_option maxHeartbeats 2000000 in
theorem scheck_yes (hB : BdsAt w) (ha : kc a = true) (hb : kc b = true) :
    Calls Tryd.prog 46 #[spanV a b] w fun e w' => e = .returned (.int .i64 0) ∧ Below w.heap.size w w' := by
  have c1 := fun w hB => check_yes a.mi a.ho a.da a.mn a.we a.ad a.aw w hB ha
  have c2 := fun w hB => check_yes b.mi b.ho b.da b.mn b.we b.ad b.aw w hB hb
  clear ha hb
  go_enter Tryd.func46, Tryd.ntmps46
  go_wp2_with (first
    | (go_at_call 60; (with_reducible refine (c1 _ (hB.below (balloc _) (Nat.le_refl _))).mono ?_); rintro e w1 ⟨rfl, hb1⟩; have hB1 : BdsAt w1 := (hB.below (balloc _) (Nat.le_refl _)).below hb1 (Nat.le_refl _); have hw1 : Hid (Below w.heap.size w w1) := (balloc _).trans (hb1.mono (by simp)); obtain ⟨hc1, hf1⟩ := bcell hb1)
    | (go_at_call 60; (with_reducible refine (c2 _ hB1).mono ?_); rintro e w2 ⟨rfl, hb2⟩))
  go_ret
  exact ⟨rfl, bstep hw1 hb2⟩
set_option maxHeartbeats 2000000 in
theorem scheck_no (hB : BdsAt w) (h : kc a = false ∨ kc b = false) :
    Calls Tryd.prog 46 #[spanV a b] w fun e w' => e = .returned (.int .i64 1) ∧ Below w.heap.size w w' := by
  cases ha : kc a
  · have c1 := fun w hB => check_no a.mi a.ho a.da a.mn a.we a.ad a.aw w hB ha
    clear h ha
    go_enter Tryd.func46, Tryd.ntmps46
    go_wp2_with (first
      | (go_at_call 60; (with_reducible refine (c1 _ (hB.below (balloc _) (Nat.le_refl _))).mono ?_); rintro e w1 ⟨rfl, hb1⟩; have hw1 : Hid (Below w.heap.size w w1) := (balloc _).trans (hb1.mono (by simp))))
    go_ret
    exact ⟨rfl, hw1⟩
  · have hb : kc b = false := by rcases h with h | h; (rw [ha] at h; cases h); exact h
    have c1 := fun w hB => check_yes a.mi a.ho a.da a.mn a.we a.ad a.aw w hB ha
    have c2 := fun w hB => check_no b.mi b.ho b.da b.mn b.we b.ad b.aw w hB hb
    clear ha hb h
    go_enter Tryd.func46, Tryd.ntmps46
    go_wp2_with (first
      | (go_at_call 60; (with_reducible refine (c1 _ (hB.below (balloc _) (Nat.le_refl _))).mono ?_); rintro e w1 ⟨rfl, hb1⟩; have hB1 : BdsAt w1 := (hB.below (balloc _) (Nat.le_refl _)).below hb1 (Nat.le_refl _); have hw1 : Hid (Below w.heap.size w w1) := (balloc _).trans (hb1.mono (by simp)); obtain ⟨hc1, hf1⟩ := bcell hb1)
      | (go_at_call 60; (with_reducible refine (c2 _ hB1).mono ?_); rintro e w2 ⟨rfl, hb2⟩))
    go_ret
    exact ⟨rfl, bstep hw1 hb2⟩
end
end Crn
end Go.Proofs.YtbnnplfmhmmbnahDoor
