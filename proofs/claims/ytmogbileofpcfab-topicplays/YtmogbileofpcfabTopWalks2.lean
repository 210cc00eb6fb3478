/- What each function of package topic answers: Take, New, Lags; slices.Equal. -/
import Derived.Test.YtmogbileofpcfabTopWalks
namespace Go.Proofs.Ytmogbileofpcfab
namespace Top
open Go.RowKit
set_option maxRecDepth 8000

theorem take_none (T G n : Nat) (p x : Int) (w : World) (hT : w.cell? ⟨T, 0, none⟩ = some (.slice (some ⟨G, 0, none⟩) n n)) (h : ¬ (0 ≤ p ∧ p < (n : Int))) :
    Calls Try.prog 8 #[.pointer (some ⟨T, 0, none⟩), .int .i64 p, .int .i64 x] w fun e w' => e = .returned (.int .i64 4) ∧ w' = w := by
  have c := has_no T G n p w hT h
  clear h
  go_enter Try.func8, Try.ntmps8
  go_wp2_with (go_at_call 13; (with_reducible refine c.mono ?_); rintro e w' ⟨rfl, rfl⟩)
  go_ret
  exact ⟨rfl, rfl⟩
set_option maxHeartbeats 1000000 in
theorem take_arg (T G n i : Nat) (x v o : Int) (w : World) (hT : w.cell? ⟨T, 0, none⟩ = some (.slice (some ⟨G, 0, none⟩) n n)) (hi : i < n) (h : ¬ (o ≤ x ∧ x ≤ v))
    (hc : w.cell? ⟨G, i * 2, none⟩ = some (.int .i64 v)) (ho : w.cell? ⟨G, i * 2 + 1, none⟩ = some (.int .i64 o)) :
    Calls Try.prog 8 #[.pointer (some ⟨T, 0, none⟩), .int .i64 (i : Int), .int .i64 x] w fun e w' => e = .returned (.int .i64 1) ∧ w' = w := by
  have c := has_yes T G n i w hT (by omega) (by omega)
  have hi' : (i : Int) < n := by omega
  by_cases h2 : x < o
  · go_enter Try.func8, Try.ntmps8
    go_wp2_with (go_at_call 13; (with_reducible refine c.mono ?_); rintro e w' ⟨rfl, h9⟩; have h8 := h9.symm; clear h9; subst h8)
    go_ret
    exact ⟨rfl, rfl⟩
  · have h3 : v < x := by omega
    go_enter Try.func8, Try.ntmps8
    go_wp2_with (go_at_call 13; (with_reducible refine c.mono ?_); rintro e w' ⟨rfl, h9⟩; have h8 := h9.symm; clear h9; subst h8)
    go_ret
    exact ⟨rfl, rfl⟩
set_option maxHeartbeats 1000000 in
theorem take_yes (T G n i : Nat) (x v o : Int) (w : World) (hT : w.cell? ⟨T, 0, none⟩ = some (.slice (some ⟨G, 0, none⟩) n n)) (hi : i < n) (h1 : o ≤ x) (h2 : x ≤ v)
    (hc : w.cell? ⟨G, i * 2, none⟩ = some (.int .i64 v)) (ho : w.cell? ⟨G, i * 2 + 1, none⟩ = some (.int .i64 o)) (hf : w.frozen? ⟨G, i * 2 + 1, none⟩ = false) :
    Calls Try.prog 8 #[.pointer (some ⟨T, 0, none⟩), .int .i64 (i : Int), .int .i64 x] w fun e w' => e = .returned (.int .i64 0) ∧ w' = w.setCell ⟨G, i * 2 + 1, none⟩ (.int .i64 x) := by
  have c := has_yes T G n i w hT (by omega) (by omega)
  have hi' : (i : Int) < n := by omega
  have g1 : ¬ x < o := by omega
  have g2 : ¬ v < x := by omega
  go_enter Try.func8, Try.ntmps8
  go_wp2_with (go_at_call 13; (with_reducible refine c.mono ?_); rintro e w' ⟨rfl, h9⟩; have h8 := h9.symm; clear h9; subst h8)
  go_ret
  exact ⟨rfl, rfl⟩

theorem new_no (p : Int) (w : World) (h : ¬ (1 ≤ p ∧ p ≤ 20)) :
    Calls Try.prog 4 #[.int .i64 p] w fun e w' => e = .returned (.tuple #[.pointer none, .int .i64 1]) ∧ w' = w := by
  by_cases h2 : p < 1
  · go_enter Try.func4, Try.ntmps4
    go_wp2
    go_ret2
    exact ⟨rfl, rfl⟩
  · have h3 : 20 < p := by omega
    go_enter Try.func4, Try.ntmps4
    go_wp2
    go_ret2
    exact ⟨rfl, rfl⟩

theorem made2 (m j : Nat) (h : j < m) : (madeCells #[.int .i64 0, .int .i64 0] m).toList[j]? = some (.int .i64 0) := by
  have : j % 2 = 0 ∨ j % 2 = 1 := by omega
  rcases this with g | g <;> simp [madeCells, h, g]
theorem made1 (m j : Nat) (h : j < m) : (madeCells #[.int .i64 0] m).toList[j]? = some (.int .i64 0) := by
  simp [madeCells, h, Nat.mod_one]

/-- a topic of n partitions lies at T and G -/
def TopAt (w : World) (T G n : Nat) (E O : Nat → Int) : Prop := T ≠ G ∧ T < w.heap.size ∧ w.cell? ⟨T, 0, none⟩ = some (.slice (some ⟨G, 0, none⟩) n n) ∧ Row2 w G n E O

set_option maxHeartbeats 1000000 in
theorem new_yes (n : Nat) (w : World) (h1 : 1 ≤ n) (h2 : n ≤ 20) :
    Calls Try.prog 4 #[.int .i64 (n : Int)] w fun e w' => ∃ T G, e = .returned (.tuple #[.pointer (some ⟨T, 0, none⟩), .int .i64 0]) ∧ w.heap.size ≤ T ∧ w.heap.size ≤ G ∧ TopAt w' T G n (fun _ => 0) (fun _ => 0) ∧ Below w.heap.size w w' := by
  obtain ⟨i0, hi, hz0, hz1, hz2⟩ := info_parts info_part
  go_enter Try.func4, Try.ntmps4
  go_wp2_with (at_make; refine wpList_make_full _ rfl _ _ 38 rfl w.heap.size 44 i0 _ 2 Try.underlying38 hi hz0 hz1 _ _ _ _ n rfl rfl rfl rfl (by rw [hz2]; omega) (by unfold maxLen; omega) (Nat.le_refl _) ?_; intro w1 hown hgrow)
  go_ret2
  have hb1 : Below w.heap.size w w1 := (Below.refl _ _).grown hgrow (Nat.le_refl _) (fun _ h => by cases h)
  have hR : Row2 w1 w.heap.size n (fun _ => 0) (fun _ => 0) := Row2.of_owns hown (fun i hi => ⟨made2 _ _ (by omega), made2 _ _ (by omega)⟩)
  have hlt := hR.lt
  refine ⟨w1.heap.size, w.heap.size, rfl, by omega, Nat.le_refl _, ⟨by omega, by simp, ?_, hR.alloc _⟩, hb1.alloc hb1.size _⟩
  simp
end Top
end Go.Proofs.Ytmogbileofpcfab
