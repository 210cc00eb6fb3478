
/- The law NeedStays, walked. -/
import Derived.Test.YtcaobnmfgnbolafDoorNeedWant3
import Derived.Test.YtcaobnmfgnbolafDoorNeedGrow
namespace Go.Proofs.YtcaobnmfgnbolafDoor
namespace Ned
open Go.RowKit Plain Num Pln Civ Crn Lai
set_option maxRecDepth 8000

/-- what Want tells, where all is right -/
theorem want_yes (now tol : Int) (t : Tr) (a : Option Addr) (len cap : Nat) (X : Nat → Int) (w : World) (hk : t.k = 1 ∨ t.k = 2) (h1 : 0 ≤ now) (h2 : now ≤ 50) (h3 : 0 ≤ tol) (h4 : tol ≤ 1000) (ht : 1 ≤ t.tg) (hm : len ≤ maxLen) (hX : IntsAt w a len X) :
    Calls Tryd.prog 14 #[.int .i64 now, .int .i64 tol, trV t, rdV false a len cap] w fun e w' => e = .returned (.tuple #[.int .i64 (wantF now tol t.k t.tg len X), .int .i64 0]) ∧ Below w.heap.size w w' := by
  by_cases h0 : now = 0
  · subst h0
    have e : wantF 0 tol t.k t.tg len X = podF t.k t.tg len X := by unfold wantF; simp
    rw [e]
    exact want_none tol t a len cap X w hk h3 h4 ht hm hX
  · exact want_some now tol t a len cap X w hk (by omega) h2 h3 h4 ht hm hX
/-- 22 that wait, ten a pod, a tenth is let by -/
theorem want_two (a : Option Addr) (w : World) (hX : IntsAt w a 1 (fun _ => 22)) :
    Calls Tryd.prog 14 #[.int .i64 2, .int .i64 100, trV ⟨2, 10, 0, z0, z0⟩, rdV false a 1 1] w fun e w' => e = .returned (.tuple #[.int .i64 2, .int .i64 0]) ∧ Below w.heap.size w w' := by
  have e1 : wantF 2 100 2 10 1 (fun _ => 22) = 2 := by decide
  have c := want_yes 2 100 ⟨2, 10, 0, z0, z0⟩ a 1 1 (fun _ => 22) w (Or.inr rfl) (by decide) (by decide) (by decide) (by decide) (by decide) (by decide) hX
  dsimp only at c
  rw [e1] at c
  exact c
set_option maxHeartbeats 4000000 in
/-- Want tells an error -/
theorem stay_err (now tol : Int) (t : Tr) (a : Option Addr) (len cap : Nat) (p F : Int) (b : Bool) (w : World)
    (c2 : ∀ w', Below w.heap.size w w' → Calls Tryd.prog 14 #[.int .i64 now, .int .i64 tol, trV t, rdV false a len cap] w' fun e w'' => e = .returned (.tuple #[.int .i64 0, .int .i64 1]) ∧ Below w'.heap.size w' w'')
    (c3 : ∀ w', Below w.heap.size w w' → Calls Tryd.prog 10 #[trV t, rdV false a len cap, .int .i64 0, .int .i64 0] w' fun e w'' => e = .returned (.tuple #[needV p b, .int .i64 F]) ∧ Below w'.heap.size w' w'') :
    Calls Tryd.prog 5 #[.int .i64 now, trV t, .slice a len cap, .int .i64 tol] w fun e w' => e = .returned (.bool true) ∧ Below w.heap.size w w' := by
  have c1 := fun a w hX => want_two a w hX
  have hI := fun o ta => two_int w o 22 ta (by decide) (by decide)
  go_enter Tryd.func5, Tryd.ntmps5
  go_wp2_with (first
    | (go_at_call 14; (with_reducible refine (c1 _ _ (hI _ _)).mono ?_); rintro e w1 ⟨rfl, hb1⟩; obtain ⟨hT1, hw1, hz1⟩ := first_box (t := t) hb1)
    | (with_reducible refine wp_tr hT1 (by with_unfolding_all rfl) ?_)
    | (go_at_call 14; (with_reducible refine (c2 _ hw1).mono ?_); rintro e w2 ⟨rfl, hb2⟩; have hw2 := bstep hw1 hb2; have hT2 := hT1.below hb2 hz1)
    | (with_reducible refine wp_tr hT2 (by with_unfolding_all rfl) ?_)
    | (go_at_call 10; (with_reducible refine (c3 _ hw2).mono ?_); rintro e w3 ⟨rfl, hb3⟩; have hw3 := bstep hw2 hb3))
  go_ret
  exact ⟨rfl, hw3.alloc hw3.size _⟩
set_option maxHeartbeats 8000000 in
theorem stay_ok (now tol : Int) (t : Tr) (a : Option Addr) (len cap : Nat) (n p m : Int) (b : Bool) (w : World)
    (c2 : ∀ w', Below w.heap.size w w' → Calls Tryd.prog 14 #[.int .i64 now, .int .i64 tol, trV t, rdV false a len cap] w' fun e w'' => e = .returned (.tuple #[.int .i64 n, .int .i64 0]) ∧ Below w'.heap.size w' w'')
    (c3 : ∀ w', Below w.heap.size w w' → Calls Tryd.prog 10 #[trV t, rdV false a len cap, .int .i64 0, .int .i64 0] w' fun e w'' => e = .returned (.tuple #[needV p b, .int .i64 0]) ∧ Below w'.heap.size w' w'')
    (c4 : ∀ w', Below w.heap.size w w' → Calls Tryd.prog 14 #[.int .i64 now, .int .i64 1000, trV t, rdV false a len cap] w' fun e w'' => e = .returned (.tuple #[.int .i64 m, .int .i64 0]) ∧ Below w'.heap.size w' w'')
    (h1 : n = now ∨ n = p) (h2 : m = now ∨ m = p) (h3 : n ≠ now ∨ now = 0 ∨ m = now ∨ p = now) :
    Calls Tryd.prog 5 #[.int .i64 now, trV t, .slice a len cap, .int .i64 tol] w fun e w' => e = .returned (.bool true) ∧ Below w.heap.size w w' := by
  have c1 := fun a w hX => want_two a w hX
  have hI := fun o ta => two_int w o 22 ta (by decide) (by decide)
  have HH : Hid ((n = now ∨ n = p) ∧ (m = now ∨ m = p) ∧ (n ≠ now ∨ now = 0 ∨ m = now ∨ p = now)) := ⟨h1, h2, h3⟩
  clear h1 h2 h3
  go_enter Tryd.func5, Tryd.ntmps5
  go_wp2_with (first
    | (go_at_call 14; (with_reducible refine (c1 _ _ (hI _ _)).mono ?_); rintro e w1 ⟨rfl, hb1⟩; obtain ⟨hT1, hw1, hz1⟩ := first_box (t := t) hb1)
    | (with_reducible refine wp_tr hT1 (by with_unfolding_all rfl) ?_)
    | (go_at_call 14; (with_reducible refine (c2 _ hw1).mono ?_); rintro e w2 ⟨rfl, hb2⟩; have hw2 := bstep hw1 hb2; have hT2 := hT1.below hb2 hz1; have hz2 := Nat.lt_of_lt_of_le hz1 hb2.size)
    | (with_reducible refine wp_tr hT2 (by with_unfolding_all rfl) ?_)
    | (go_at_call 10; (with_reducible refine (c3 _ hw2).mono ?_); rintro e w3 ⟨rfl, hb3⟩; have hw3 := bstep hw2 hb3; have hw3a := fun o => hw3.alloc hw3.size o; have hT3 := fun o => (hT2.below hb3 hz2).below (balloc (w := w3) o) (Nat.lt_of_lt_of_le hz2 hb3.size))
    | (with_reducible refine wp_tr (hT3 _) (by with_unfolding_all rfl) ?_)
    | (go_at_call 14; (with_reducible refine (c4 _ (hw3a _)).mono ?_); rintro e w4 ⟨rfl, hb4⟩; have hw4 := bstep (hw3a _) hb4; have x0 : w4.cell? ⟨w3.heap.size, 0, none⟩ = some (.int .i64 p) := (hb4.cell (p := ⟨w3.heap.size, 0, none⟩) (by simp)).trans (cellA rfl)))
  all_goals
    obtain ⟨h1, h2, h3⟩ := HH.out
    clear HH c1 c2 c3 c4 hI
    first
      | (go_ret; exact ⟨rfl, hw4⟩)
      | (exfalso; omega)
      | (exfalso; rename_i hne; simp only [bne_iff_ne, ne_eq] at hne; omega)
end Ned
end Go.Proofs.YtcaobnmfgnbolafDoor
