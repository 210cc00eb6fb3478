
/- What cron.Next and cron.Last answer, at every input. -/
import Derived.Test.YtcaobnmfgnbolafDoorCronLastX
namespace Go.Proofs.YtcaobnmfgnbolafDoor
namespace Crn
open Go.RowKit Lai Civ Cal
set_option maxRecDepth 8000

/-- the minute, counted from the beginning of -4000, of a clock that is ahead -/
def minOf (sec shift : Int) : Int := sc sec shift / 60

theorem yr_mid (n : Int) (h1 : 1000000 ≤ n) (h2 : n ≤ 4000000) : -3900 ≤ yr n ∧ yr n ≤ 7900 := by
  have a := yr_bd n (by omega) h2
  obtain ⟨b1, b2⟩ := yr_spec n
  refine ⟨?_, by omega⟩
  by_cases g : -3900 ≤ yr n
  · exact g
  · have := ys_mono (yr n + 1) (-3900) (by omega)
    have e : ys (-3900) = 36525 := by decide
    omega

section
variable (mi ho da mn we : Int) (ad aw : Bool) (sec shift : Int) (w : World)
theorem last_yes (hB : BdsAt w) (b0 : U mi) (b1 : U ho) (b2 : U da) (b3 : U mn) (b4 : U we) (hc : chkB mi ho da mn we ad aw = true) (ht : tmB sec = true) (hs : shB shift = true) :
    Calls Tryd.prog 54 #[cronV mi ho da mn we ad aw, .int .i64 sec, .int .i64 shift] w fun e w' => ∃ n ok, e = .returned (.tuple #[.int .i64 n, .bool ok, .int .i64 0]) ∧ LastIs mi ho da mn we ad aw (minOf sec shift) shift n ok ∧ Below w.heap.size w w' := by
  have h1 := (tm_iff _).1 ht
  have h2 := (sh_iff _).1 hs
  have cb := fun w hB => begin_yes mi ho da mn we ad aw sec shift w hB hc ht hs
  obtain ⟨d1, d2, d3, d4, d5⟩ := date_spec (sc sec shift / 86400)
  have hy := yr_mid (sc sec shift / 86400) (by unfold sc; omega) (by unfold sc; omega)
  refine last_core mi ho da mn we ad aw sec shift _ _ _ _ _ _ _ (minOf sec shift) w hB (good_of b0 b1 b2 b3 b4 hc) b0 b1 b2 b3 b4 cb hy ⟨d1, d2⟩ ⟨d3, d4⟩ (by omega) (by omega) ?_ ?_ ?_ hs
  · unfold minOf; omega
  · unfold minOf beg; omega
  · unfold minOf; omega

theorem begin_err (h : chkB mi ho da mn we ad aw = false ∨ tmB sec = false ∨ shB shift = false) (hB : BdsAt w) :
    Calls Tryd.prog 69 #[cronV mi ho da mn we ad aw, .int .i64 sec, .int .i64 shift] w fun e w' => e = .returned (.tuple #[civ 0 0 0 0 0 0 0, .int .i64 1]) ∧ Below w.heap.size w w' := by
  cases hc : chkB mi ho da mn we ad aw
  · exact begin_bad mi ho da mn we ad aw sec shift w hB hc
  · refine begin_no mi ho da mn we ad aw sec shift w hB hc ?_
    rcases h with h | h
    · rw [hc] at h; cases h
    · exact h
set_option maxHeartbeats 2000000 in
theorem last_no (hB : BdsAt w) (h : chkB mi ho da mn we ad aw = false ∨ tmB sec = false ∨ shB shift = false) :
    Calls Tryd.prog 54 #[cronV mi ho da mn we ad aw, .int .i64 sec, .int .i64 shift] w fun e w' => e = .returned (.tuple #[.int .i64 0, .bool false, .int .i64 1]) ∧ Below w.heap.size w w' := by
  have c := fun w => begin_err mi ho da mn we ad aw sec shift w h
  clear h
  go_enter Tryd.func54, Tryd.ntmps54
  go_wp2_with (go_at_call 69; (with_reducible refine (c _ (hB.below (balloc _) (Nat.le_refl _))).mono ?_); rintro e w1 ⟨rfl, hb1⟩)
  go_ret3
  exact ⟨rfl, bstepA ((balloc _).trans (hb1.mono (by simp))) _⟩
end
end Crn
end Go.Proofs.YtcaobnmfgnbolafDoor
