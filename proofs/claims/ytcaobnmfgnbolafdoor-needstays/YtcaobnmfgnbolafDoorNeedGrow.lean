
/- The law NeedGrows, walked. -/
import Derived.Test.YtcaobnmfgnbolafDoorNeedOf
import Derived.Test.YtcaobnmfgnbolafDoorNeedClone
namespace Go.Proofs.YtcaobnmfgnbolafDoor
namespace Ned
open Go.RowKit Plain Num Pln Civ Crn Lai
set_option maxRecDepth 8000

theorem rest_any (n m : Int) (w : World) (h1 : 1 ≤ m) (h2 : m ≤ 140737488355328) :
    Calls Tryd.prog 11 #[.int .i64 n, .int .i64 m] w fun e w' => e = .returned (.int .i64 (n % m)) ∧ w' = w := by
  have hm : ¬ m = 0 := by omega
  have h3 := Int.tmod_lt_of_pos n (show 0 < m by omega)
  have h4 : -m < n.tmod m := by
    have := Int.tmod_lt_of_pos (-n) (show 0 < m by omega)
    rw [Int.neg_tmod] at this
    omega
  have h6 : n.tmod m % m = n % m := by
    have h7 := Int.tmod_add_mul_tdiv n m
    have h8 : n.tmod m = n + m * -(n.tdiv m) := by rw [Int.mul_neg]; omega
    rw [h8, Int.add_mul_emod_self_left]
  by_cases hr : n.tmod m < 0
  · have HE : Hid (n.tmod m + m = n % m) := by
      have := Int.emod_eq_add_self_emod (a := n.tmod m) (b := m)
      have h5 : (n.tmod m + m) % m = n.tmod m + m := Int.emod_eq_of_lt (by omega) (by omega)
      show n.tmod m + m = n % m
      omega
    clear h6
    go_enter Tryd.func11, Tryd.ntmps11
    go_wp2
    go_ret
    exact ⟨ret_i HE.out, rfl⟩
  · have HE : Hid (n.tmod m = n % m) := by
      have h5 : n.tmod m % m = n.tmod m := Int.emod_eq_of_lt (by omega) (by omega)
      show n.tmod m = n % m
      omega
    clear h6
    go_enter Tryd.func11, Tryd.ntmps11
    go_wp2
    go_ret
    exact ⟨ret_i HE.out, rfl⟩
abbrev z0 : K := ⟨0, 0, 0, 0, 0, false, false⟩
/-- 7 that wait, three a pod -/
theorem of_seven (a : Option Addr) (w : World) (hX : IntsAt w a 1 (fun _ => 7)) :
    Calls Tryd.prog 10 #[trV ⟨2, 3, 6, z0, z0⟩, rdV false a 1 1, .int .i64 0, .int .i64 0] w fun e w' => e = .returned (.tuple #[needV 3 true, .int .i64 0]) ∧ Below w.heap.size w w' := by
  have e1 : podF 2 3 1 (fun _ => 7) = 3 := by decide
  have e2 : decide ((6 : Int) < metF 2 1 (fun _ => 7)) = true := by decide
  refine of_pass ⟨2, 3, 6, z0, z0⟩ false a 1 1 0 0 3 0 true w (Or.inr rfl) fun w' hb => ?_
  have c := ofr_yes ⟨2, 3, 6, z0, z0⟩ a 1 1 (fun _ => 7) w' (by decide) (by decide) (hX.below hb (Nat.le_refl _))
  dsimp only at c
  rw [e1, e2] at c
  exact c
theorem one_int (w : World) (n : Int) (ta : TypeId) (h1 : -9223372036854775808 ≤ n) (h2 : n ≤ 9223372036854775807) : IntsAt (w.alloc (.cells #[.int .i64 n] ta)) (some ⟨w.heap.size, 0, none⟩) 1 (fun _ => n) := by
  intro i hi
  obtain rfl : i = 0 := by omega
  exact ⟨w.heap.size, 0, rfl, by simp, by simp, h1, h2⟩
theorem two_int (w : World) (o : Obj) (n : Int) (ta : TypeId) (h1 : -9223372036854775808 ≤ n) (h2 : n ≤ 9223372036854775807) : IntsAt ((w.alloc o).alloc (.cells #[.int .i64 n] ta)) (some ⟨w.heap.size + 1, 0, none⟩) 1 (fun _ => n) := by
  have := one_int (w.alloc o) n ta h1 h2
  simpa using this
theorem first_box {w w1 : World} {t : Tr} {ta : TypeId} {S : Obj} (hb : Below ((w.alloc (.cells (trC t) ta)).alloc S).heap.size ((w.alloc (.cells (trC t) ta)).alloc S) w1) : TrAt w1 w.heap.size 0 t ∧ Below w.heap.size w w1 ∧ w.heap.size < w1.heap.size :=
  ⟨((TrAt.new w t ta).below (balloc S) (by simp)).below hb (by simp; omega), ballocs hb, by have := hb.size; simp at this; omega⟩
set_option maxHeartbeats 4000000 in
theorem grow_skip (k tg ac : Int) (ka kb : K) (a : Option Addr) (len cap : Nat) (i more : Int) (w : World) (h : k = 3 ∨ len = 0) :
    Calls Tryd.prog 4 #[trV ⟨k, tg, ac, ka, kb⟩, .slice a len cap, .int .i64 i, .int .i64 more] w fun e w' => e = .returned (.bool true) ∧ Below w.heap.size w w' := by
  have c1 := fun a w hX => of_seven a w hX
  have hI := fun o ta => two_int w o 7 ta (by decide) (by decide)
  rcases h with rfl | rfl
  all_goals
    go_enter Tryd.func4, Tryd.ntmps4
    go_wp2_with (first
      | (go_at_call 10; (with_reducible refine (c1 _ _ (hI _ _)).mono ?_); rintro e w1 ⟨rfl, hb1⟩; obtain ⟨hT1, hw1, hz1⟩ := first_box (t := ⟨_, tg, ac, ka, kb⟩) hb1; have k0 := fun o => (hT1.below (balloc (w := w1) o) hz1).c0; dsimp only at k0))
    all_goals
      go_ret
      exact ⟨rfl, hw1.alloc hw1.size _⟩
end Ned
end Go.Proofs.YtcaobnmfgnbolafDoor
