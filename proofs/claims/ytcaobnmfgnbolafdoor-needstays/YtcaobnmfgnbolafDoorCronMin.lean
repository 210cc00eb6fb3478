
/- What cron.minuteFrom and cron.minuteUpTo answer. -/
import Derived.Test.YtcaobnmfgnbolafDoorCronBits
import Derived.Test.YtcaobnmfgnbolafDoorCronPlain
namespace Go.Proofs.YtcaobnmfgnbolafDoor
namespace Crn
open Go.RowKit Lai Civ
set_option maxRecDepth 8000

theorem upt_bd (s n : Int) (h0 : 0 ≤ s ∧ s ≤ 18446744073709551615) (hn : -1 ≤ n) : -1 ≤ upt s n ∧ upt s n ≤ 63 := by
  cases h : uptB s n
  · rw [upt_zero s n h]; omega
  · obtain ⟨a, b, c, _⟩ := upt_yes s n h0 hn h; omega

theorem tabA {u : World} {o : Obj} (h : TabIs64 u) : TabIs64 (u.alloc o) := h.below (balloc o) (Nat.le_refl _)

set_option maxHeartbeats 2000000 in
theorem minUpTo_any (mi ho da mo we : Int) (ad aw : Bool) (h m : Int) (w : World) (b0 : U mi) (b1 : U ho) (hh : 0 ≤ h ∧ h ≤ 23) (hm : 0 ≤ m ∧ m ≤ 59) :
    Calls Tryd.prog 71 #[cronV mi ho da mo we ad aw, .int .i64 h, .int .i64 m] w fun e w' => e = .returned (.tuple #[.int .i64 (mu mi ho h m), .bool (muB mi ho h m)]) ∧ Below w.heap.size w w' := by
  have f1 := upt_bd mi m b0 (by omega)
  have f2 := upt_bd ho (h - 1) b1 (by omega)
  have f3 := upt_bd mi 59 b0 (by omega)
  have c1 := fun w => upto_any mi m w b0 (by omega)
  have c2 := fun w => has_any ho h w b1 (by omega)
  have c3 := fun w => upto_any ho (h - 1) w b1 (by omega)
  have c4 := fun w => upto_any mi 59 w b0 (by omega)
  unfold mu muB
  cases g1 : uptB mi m
  all_goals rw [g1] at c1; try clear g1
  · simp only [Bool.false_and, Bool.false_or, Bool.false_eq_true, if_false]
    go_enter Tryd.func71, Tryd.ntmps71
    go_wp2_with (first
      | (go_at_call 92; with_reducible refine (c1 _).mono ?_; rintro e w1 ⟨rfl, rfl⟩)
      | (go_at_call 92; with_reducible refine (c3 _).mono ?_; rintro e w1 ⟨rfl, rfl⟩)
      | (go_at_call 92; with_reducible refine (c4 _).mono ?_; rintro e w1 ⟨rfl, rfl⟩))
    go_ret2
    exact ⟨rfl, balloc _⟩
  · cases g2 : inS ho h
    all_goals rw [g2] at c2; clear g2
    · simp only [Bool.and_false, Bool.false_or, Bool.false_eq_true, if_false]
      go_enter Tryd.func71, Tryd.ntmps71
      go_wp2_with (first
        | (go_at_call 92; with_reducible refine (c1 _).mono ?_; rintro e w1 ⟨rfl, rfl⟩)
        | (go_at_call 93; with_reducible refine (c2 _).mono ?_; rintro e w1 ⟨rfl, rfl⟩)
        | (go_at_call 92; with_reducible refine (c3 _).mono ?_; rintro e w1 ⟨rfl, rfl⟩)
        | (go_at_call 92; with_reducible refine (c4 _).mono ?_; rintro e w1 ⟨rfl, rfl⟩))
      go_ret2
      exact ⟨rfl, balloc _⟩
    · simp only [Bool.and_true, Bool.true_or, if_true]
      go_enter Tryd.func71, Tryd.ntmps71
      go_wp2_with (first
        | (go_at_call 92; with_reducible refine (c1 _).mono ?_; rintro e w1 ⟨rfl, rfl⟩)
        | (go_at_call 93; with_reducible refine (c2 _).mono ?_; rintro e w1 ⟨rfl, rfl⟩))
      go_ret2
      exact ⟨rfl, balloc _⟩
end Crn
end Go.Proofs.YtcaobnmfgnbolafDoor
