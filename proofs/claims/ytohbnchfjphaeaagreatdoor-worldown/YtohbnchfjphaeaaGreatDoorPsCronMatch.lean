/- What cron.Match answers. What cron.Match answers: whole. A cron as one thing; what span.Check answers. -/
import Derived.Test.YtohbnchfjphaeaaGreatDoorPsCronWalks
import Derived.Deep.QuietTactic
import Derived.BigQuiet
import Derived.Test.YtohbnchfjphaeaaGreatDoorPsCronPlain
import Derived.Test.YtohbnchfjphaeaaGreatDoorPsNumWalks
namespace Go.Proofs.YtohbnchfjphaeaaGreatDoor
namespace Crn
open Go.RowKit Lai Civ


theorem bdrewN {n : Nat} {a b : World} (h : Below n a b) : ∀ k, Below n a (b.drewN k)
 | 0 => h
 | k + 1 => (bdrewN h k).drew

theorem either_any (mi ho da mo we : Int) (ad aw : Bool) (w : World) :
  Calls Tryz.prog 165 #[cronV mi ho da mo we ad aw] w fun e w' => e = .returned (.bool (!ad && !aw)) ∧ Below w.heap.size w w' := by
 cases ad <;> cases aw
 all_goals
  go_enter Tryz.func165, Tryz.ntmps165
  go_wp2
  go_ret
  exact ⟨rfl, (Below.refl _ _).alloc (Nat.le_refl _) _⟩

set_option maxRecDepth 20000 in
set_option maxHeartbeats 4000000 in
theorem day_any (mi ho da mo we : Int) (ad aw : Bool) (y m d h i s k : Int) (w : World) (b2 : U da) (b3 : U mo) (b4 : U we) (bm : I m) (bd : I d) (bk : I k) :
  Calls Tryz.prog 157 #[cronV mi ho da mo we ad aw, civ y m d h i s k] w fun e w' => e = .returned (.bool (dayB da mo we ad aw m d k)) ∧ Below w.heap.size w w' := by
 unfold dayB
 cases h1 : inS da d <;> cases h2 : inS we k <;> cases h3 : inS mo m <;> cases h4 : (!ad && !aw)
 all_goals
  have c1 := has_any da d (h0 := b2) (hn := bd)
  have c2 := has_any we k (h0 := b4) (hn := bk)
  have c3 := has_any mo m (h0 := b3) (hn := bm)
  have c4 := either_any mi ho da mo we ad aw
  rw [h1] at c1; rw [h2] at c2; rw [h3] at c3; rw [h4] at c4
  clear h1 h2 h3 h4
  go_enter Tryz.func157, Tryz.ntmps157
  go_wp2
  go_quiet (first | (go_at_call 164; with_reducible refine Calls.quiet_of_same (c1 _)) | (go_at_call 164; with_reducible refine Calls.quiet_of_same (c2 _)))
  go_wp2_with (first
   | (go_at_call 164; with_reducible refine (c3 _).mono ?_; rintro e w1 ⟨rfl, rfl⟩)
   | (go_at_call 165; with_reducible refine (c4 _).mono ?_; rintro e w1 ⟨rfl, hb1⟩))
  go_ret
  first
   | exact ⟨rfl, bdrewN (((Below.refl _ _).alloc (Nat.le_refl _) _).alloc (by simp) _) _⟩
   | exact ⟨rfl, (bdrewN (((Below.refl _ _).alloc (Nat.le_refl _) _).alloc (by simp) _) _).trans (hb1.mono (by simp; omega))⟩
end Crn
namespace Crn
open Go.RowKit Lai Civ

theorem check_no (mi ho da mo we : Int) (ad aw : Bool) (w : World) (hB : BdsAt w) (h : chkB mi ho da mo we ad aw = false) :
  Calls Tryz.prog 120 #[cronV mi ho da mo we ad aw] w fun e w' => e = .returned (.int .i64 1) ∧ Below w.heap.size w w' := by
 have := check_any mi ho da mo we ad aw w hB
 rwa [show chkE mi ho da mo we ad aw = 1 by unfold chkE; rw [h]; rfl] at this
theorem check_yes (mi ho da mo we : Int) (ad aw : Bool) (w : World) (hB : BdsAt w) (h : chkB mi ho da mo we ad aw = true) :
  Calls Tryz.prog 120 #[cronV mi ho da mo we ad aw] w fun e w' => e = .returned (.int .i64 0) ∧ Below w.heap.size w w' := by
 have := check_any mi ho da mo we ad aw w hB
 rwa [show chkE mi ho da mo we ad aw = 0 by unfold chkE; rw [h]; rfl] at this

theorem balloc {w : World} (o : Obj) : Below w.heap.size w (w.alloc o) := (Below.refl _ _).alloc (Nat.le_refl _) _
theorem balloc2 {w : World} (o p : Obj) : Below w.heap.size w ((w.alloc o).alloc p) := ((Below.refl _ _).alloc (Nat.le_refl _) _).alloc (by simp) _
theorem ballocs {w w1 : World} {o p : Obj} (h : Below ((w.alloc o).alloc p).heap.size ((w.alloc o).alloc p) w1) : Below w.heap.size w w1 := (balloc2 o p).trans (h.mono (by simp; omega))

end Crn
namespace Crn
open Go.RowKit Lai Civ
set_option maxRecDepth 8000

section
variable (a b : K) (w : World)
set_option maxHeartbeats 2000000 in
theorem scheck_yes (hB : BdsAt w) (ha : kc a = true) (hb : kc b = true) :
  Calls Tryz.prog 97 #[spanV a b] w fun e w' => e = .returned (.int .i64 0) ∧ Below w.heap.size w w' := by
 have c1 := fun w hB => check_yes a.mi a.ho a.da a.mn a.we a.ad a.aw w hB ha
 have c2 := fun w hB => check_yes b.mi b.ho b.da b.mn b.we b.ad b.aw w hB hb
 clear ha hb
 go_enter Tryz.func97, Tryz.ntmps97
 go_wp2_with (first
  | (go_at_call 120; (with_reducible refine (c1 _ (hB.below (balloc _) (Nat.le_refl _))).mono ?_); rintro e w1 ⟨rfl, hb1⟩; have hB1 : BdsAt w1 := (hB.below (balloc _) (Nat.le_refl _)).below hb1 (Nat.le_refl _); have hw1 : Hid (Below w.heap.size w w1) := (balloc _).trans (hb1.mono (by simp)); obtain ⟨hc1, hf1⟩ := bcell hb1)
  | (go_at_call 120; (with_reducible refine (c2 _ hB1).mono ?_); rintro e w2 ⟨rfl, hb2⟩))
 go_ret
 exact ⟨rfl, bstep hw1 hb2⟩
set_option maxHeartbeats 2000000 in
theorem scheck_no (hB : BdsAt w) (h : kc a = false ∨ kc b = false) :
  Calls Tryz.prog 97 #[spanV a b] w fun e w' => e = .returned (.int .i64 1) ∧ Below w.heap.size w w' := by
 cases ha : kc a
 ·have c1 := fun w hB => check_no a.mi a.ho a.da a.mn a.we a.ad a.aw w hB ha
  clear h ha
  go_enter Tryz.func97, Tryz.ntmps97
  go_wp2_with (first
   | (go_at_call 120; (with_reducible refine (c1 _ (hB.below (balloc _) (Nat.le_refl _))).mono ?_); rintro e w1 ⟨rfl, hb1⟩; have hw1 : Hid (Below w.heap.size w w1) := (balloc _).trans (hb1.mono (by simp))))
  go_ret
  exact ⟨rfl, hw1⟩
 ·have hb : kc b = false := by rcases h with h | h; (rw [ha] at h; cases h); exact h
  have c1 := fun w hB => check_yes a.mi a.ho a.da a.mn a.we a.ad a.aw w hB ha
  have c2 := fun w hB => check_no b.mi b.ho b.da b.mn b.we b.ad b.aw w hB hb
  clear ha hb h
  go_enter Tryz.func97, Tryz.ntmps97
  go_wp2_with (first
   | (go_at_call 120; (with_reducible refine (c1 _ (hB.below (balloc _) (Nat.le_refl _))).mono ?_); rintro e w1 ⟨rfl, hb1⟩; have hB1 : BdsAt w1 := (hB.below (balloc _) (Nat.le_refl _)).below hb1 (Nat.le_refl _); have hw1 : Hid (Below w.heap.size w w1) := (balloc _).trans (hb1.mono (by simp)); obtain ⟨hc1, hf1⟩ := bcell hb1)
   | (go_at_call 120; (with_reducible refine (c2 _ hB1).mono ?_); rintro e w2 ⟨rfl, hb2⟩))
  go_ret
  exact ⟨rfl, bstep hw1 hb2⟩
end
end Crn
end Go.Proofs.YtohbnchfjphaeaaGreatDoor
