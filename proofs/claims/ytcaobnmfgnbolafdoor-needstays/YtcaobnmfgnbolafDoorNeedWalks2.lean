
/- What the functions of package need answer: the METRIC, what a reading needs, the tolerance. -/
import Derived.Test.YtcaobnmfgnbolafDoorNeedWalks
namespace Go.Proofs.YtcaobnmfgnbolafDoor
namespace Ned
open Go.RowKit Plain Num Pln Civ Crn Lai
set_option maxRecDepth 8000

abbrev rdV (f : Bool) (a : Option Addr) (len cap : Nat) : Value := .agg #[.bool f, .slice a len cap]
theorem ret_i {a b : Int} (h : a = b) : Ending.returned (.int .i64 a) = .returned (.int .i64 b) := by rw [h]
theorem ret_b {a b : Bool} (h : a = b) : Ending.returned (.bool a) = .returned (.bool b) := by rw [h]

set_option maxHeartbeats 2000000 in
theorem counts_any (t : Tr) (w : World) :
    Calls Tryd.prog 26 #[trV t] w fun e w' => e = .returned (.bool (decide (t.k = 1 ∨ t.k = 2))) ∧ Below w.heap.size w w' := by
  obtain ⟨k, tg, ac, a, b⟩ := t
  by_cases h1 : k = 1
  · subst h1
    go_enter Tryd.func26, Tryd.ntmps26
    go_wp2
    go_ret
    exact ⟨rfl, balloc _⟩
  · have d1 : (k == 1) = false := by rw [beq_eq_false_iff_ne]; exact h1
    by_cases h2 : k = 2
    · subst h2
      go_enter Tryd.func26, Tryd.ntmps26
      go_wp2
      go_ret
      exact ⟨rfl, balloc _⟩
    · have d2 : (k == 2) = false := by rw [beq_eq_false_iff_ne]; exact h2
      have HE : Hid (decide (k = 1 ∨ k = 2) = false) := by unfold Hid; simp [h1, h2]
      go_enter Tryd.func26, Tryd.ntmps26
      go_wp2
      go_ret
      exact ⟨ret_b HE.out.symm, balloc _⟩

set_option maxHeartbeats 2000000 in
theorem metric_any (t : Tr) (f : Bool) (a : Option Addr) (len cap : Nat) (X : Nat → Int) (w : World) (hm : len ≤ maxLen) (hX : IntsAt w a len X) :
    Calls Tryd.prog 31 #[trV t, rdV f a len cap] w fun e w' => e = .returned (.int .i64 (metF t.k len X)) ∧ Below w.heap.size w w' := by
  have hX2 := fun o p => hX.below (balloc2 o p) (Nat.le_refl _)
  have cs := fun w hX => sum_any a len cap X w hm hX
  unfold maxLen at hm
  obtain ⟨k, tg, ac, ka, kb⟩ := t
  by_cases h1 : k = 1
  · subst h1
    have HE : Hid (metF 1 len X = sumF X len) := by unfold Hid metF; rw [if_pos rfl]
    clear hX
    go_enter Tryd.func31, Tryd.ntmps31
    go_wp2_with (go_at_call 56; (with_reducible refine (cs _ (hX2 _ _)).mono ?_); rintro e w1 ⟨rfl, h9⟩; have h8 := h9.symm; clear h9; subst h8)
    go_ret
    exact ⟨ret_i HE.out.symm, balloc2 _ _⟩
  · have d1 : (k == 1) = false := by rw [beq_eq_false_iff_ne]; exact h1
    by_cases h0 : len = 0
    · subst h0
      have HE : Hid (metF k 0 X = 0) := by unfold Hid metF; rw [if_neg h1, if_pos rfl]
      clear hX hX2 cs
      go_enter Tryd.func31, Tryd.ntmps31
      go_wp2
      go_ret
      exact ⟨ret_i HE.out.symm, balloc2 _ _⟩
    · have HE : Hid (metF k len X = atz (X 0)) := by unfold Hid metF; rw [if_neg h1, if_neg h0]
      have d0 : ((len : Int) == 0) = false := by rw [beq_eq_false_iff_ne]; omega
      have hlt : (0 : Int) < len := by omega
      obtain ⟨b, off, rfl, hbl, cX, bX⟩ := hX 0 (by omega)
      have ea : max (X 0) 0 = atz (X 0) := max_atz _
      have cX2 := fun o p => (bcell (balloc2 (w := w) o p)).1 b (off + 0) hbl
      rw [cX] at cX2
      simp only [Nat.add_zero] at cX2
      clear hX hX2 cs
      go_enter Tryd.func31, Tryd.ntmps31
      go_wp2
      go_ret
      exact ⟨ret_i HE.out.symm, balloc2 _ _⟩
set_option maxHeartbeats 2000000 in
theorem near_any (m tk tol : Int) (w : World) (h1 : 0 ≤ m) (h2 : m ≤ 9223372036854775807) (h3 : 0 ≤ tk) (h4 : tk ≤ 1000000000000000) :
    Calls Tryd.prog 30 #[.int .i64 m, .int .i64 tk, .int .i64 tol] w fun e w' => e = .returned (.bool (nearF m tk tol)) ∧ w' = w := by
  have cs := fun w => share_any tk tol w
  go_enter Tryd.func30, Tryd.ntmps30
  go_wp2_with (go_at_call 55; (with_reducible refine (cs _).mono ?_); rintro e w1 ⟨rfl, h9⟩; have h8 := h9.symm; clear h9; subst h8)
  go_ret
  exact ⟨rfl, rfl⟩
end Ned
end Go.Proofs.YtcaobnmfgnbolafDoor
