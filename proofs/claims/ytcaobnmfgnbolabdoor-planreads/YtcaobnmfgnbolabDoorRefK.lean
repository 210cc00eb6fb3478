/- What the document's answer (tideref) says of a span: Span. -/
import Derived.Test.YtcaobnmfgnbolabDoorPk2
import Derived.Test.YtcaobnmfgnbolabDoorPk11
namespace Go.Proofs.YtcaobnmfgnbolabDoor
namespace RCrn
open Go.RowKit Lai Civ Cal Crn RCiv Rst
set_option maxRecDepth 8000

section
variable (a b : K) (w : World)
theorem rcronK (u : Us a) (r : Int) (h : (if kc a = true then 0 else 1) = r) : Calls Tryd.prog 25 #[kV a] w fun e w' => e = .returned (.int .i64 r) ∧ Below w.heap.size w w' := by
  have := rcron_any a.mi a.ho a.da a.mn a.we a.ad a.aw w u.u0 u.u1 u.u2 u.u3 u.u4
  rwa [show chkE a.mi a.ho a.da a.mn a.we a.ad a.aw = r from h] at this

set_option maxHeartbeats 2000000 in
theorem rspan_yes (ua : Us a) (ub : Us b) (ha : kc a = true) (hb : kc b = true) :
    Calls Tryd.prog 7 #[spanV a b] w fun e w' => e = .returned (.int .i64 0) ∧ Below w.heap.size w w' := by
  have c1 := fun w => rcronK a w ua 0 (by rw [ha]; rfl)
  have c2 := fun w => rcronK b w ub 0 (by rw [hb]; rfl)
  clear ha hb ua ub
  go_enter Tryd.func7, Tryd.ntmps7
  go_wp2_with (first
    | (go_at_call 25; (with_reducible refine (c1 _).mono ?_); rintro e w1 ⟨rfl, hb1⟩; have hw1 : Hid (Below w.heap.size w w1) := (balloc _).trans (hb1.mono (by simp)); obtain ⟨hc1, hf1⟩ := bcell hb1)
    | (go_at_call 25; (with_reducible refine (c2 _).mono ?_); rintro e w2 ⟨rfl, hb2⟩))
  go_ret
  exact ⟨rfl, bstep hw1 hb2⟩
set_option maxHeartbeats 2000000 in
theorem rspan_no (ua : Us a) (ub : Us b) (h : kc a = false ∨ kc b = false) :
    Calls Tryd.prog 7 #[spanV a b] w fun e w' => e = .returned (.int .i64 1) ∧ Below w.heap.size w w' := by
  cases ha : kc a
  · have c1 := fun w => rcronK a w ua 1 (by rw [ha]; rfl)
    clear ha h ua ub
    go_enter Tryd.func7, Tryd.ntmps7
    go_wp2_with (first
      | (go_at_call 25; (with_reducible refine (c1 _).mono ?_); rintro e w1 ⟨rfl, hb1⟩; have hw1 : Hid (Below w.heap.size w w1) := (balloc _).trans (hb1.mono (by simp))))
    go_ret
    exact ⟨rfl, hw1⟩
  · have hb : kc b = false := by rcases h with h | h; (rw [ha] at h; cases h); exact h
    have c1 := fun w => rcronK a w ua 0 (by rw [ha]; rfl)
    have c2 := fun w => rcronK b w ub 1 (by rw [hb]; rfl)
    clear ha hb h ua ub
    go_enter Tryd.func7, Tryd.ntmps7
    go_wp2_with (first
      | (go_at_call 25; (with_reducible refine (c1 _).mono ?_); rintro e w1 ⟨rfl, hb1⟩; have hw1 : Hid (Below w.heap.size w w1) := (balloc _).trans (hb1.mono (by simp)); obtain ⟨hc1, hf1⟩ := bcell hb1)
      | (go_at_call 25; (with_reducible refine (c2 _).mono ?_); rintro e w2 ⟨rfl, hb2⟩))
    go_ret
    exact ⟨rfl, bstep hw1 hb2⟩
end
end RCrn
end Go.Proofs.YtcaobnmfgnbolabDoor
