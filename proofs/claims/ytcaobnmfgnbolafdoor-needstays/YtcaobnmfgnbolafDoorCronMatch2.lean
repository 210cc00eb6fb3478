
/- What cron.Match answers: whole. -/
import Derived.Test.YtcaobnmfgnbolafDoorCronMatch
namespace Go.Proofs.YtcaobnmfgnbolafDoor
namespace Crn
open Go.RowKit Lai Civ

theorem check_no (mi ho da mo we : Int) (ad aw : Bool) (w : World) (hB : BdsAt w) (h : chkB mi ho da mo we ad aw = false) :
    Calls Tryd.prog 46 #[cronV mi ho da mo we ad aw] w fun e w' => e = .returned (.int .i64 1) ∧ Below w.heap.size w w' := by
  have := check_any mi ho da mo we ad aw w hB
  rwa [show chkE mi ho da mo we ad aw = 1 by unfold chkE; rw [h]; rfl] at this
theorem check_yes (mi ho da mo we : Int) (ad aw : Bool) (w : World) (hB : BdsAt w) (h : chkB mi ho da mo we ad aw = true) :
    Calls Tryd.prog 46 #[cronV mi ho da mo we ad aw] w fun e w' => e = .returned (.int .i64 0) ∧ Below w.heap.size w w' := by
  have := check_any mi ho da mo we ad aw w hB
  rwa [show chkE mi ho da mo we ad aw = 0 by unfold chkE; rw [h]; rfl] at this

theorem balloc {w : World} (o : Obj) : Below w.heap.size w (w.alloc o) := (Below.refl _ _).alloc (Nat.le_refl _) _
theorem balloc2 {w : World} (o p : Obj) : Below w.heap.size w ((w.alloc o).alloc p) := ((Below.refl _ _).alloc (Nat.le_refl _) _).alloc (by simp) _
theorem ballocs {w w1 : World} {o p : Obj} (h : Below ((w.alloc o).alloc p).heap.size ((w.alloc o).alloc p) w1) : Below w.heap.size w w1 := (balloc2 o p).trans (h.mono (by simp; omega))

end Crn
end Go.Proofs.YtcaobnmfgnbolafDoor
