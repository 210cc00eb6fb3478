/- What the document's board (tideref) answers. -/
import Derived.Test.YtmogbileofpcfabTopLaw
import Derived.Deep.RegionLaw
namespace Go.Proofs.Ytmogbileofpcfab
namespace Top
open Go.RowKit
set_option maxRecDepth 8000

/-- a board of n partitions lies at B, P and Q -/
def BoardAt (w : World) (B P Q n : Nat) (E O : Nat → Int) : Prop := B ≠ P ∧ B ≠ Q ∧ P ≠ Q ∧ B < w.heap.size ∧ w.cell? ⟨B, 0, none⟩ = some (.slice (some ⟨P, 0, none⟩) n n) ∧ w.cell? ⟨B, 1, none⟩ = some (.slice (some ⟨Q, 0, none⟩) n n) ∧ Row1 w P n E ∧ Row1 w Q n O

section
variable {w w' : World} {B P Q n : Nat} {E O : Nat → Int}
theorem BoardAt.kept (h : BoardAt w B P Q n E O) (h1 : w'.heap[B]? = w.heap[B]?) (h2 : w'.heap[P]? = w.heap[P]?) (h3 : w'.heap[Q]? = w.heap[Q]?) : BoardAt w' B P Q n E O := by
  obtain ⟨a, b, c, d, e, f, g, h⟩ := h
  refine ⟨a, b, c, ?_, ?_, ?_, g.kept h2, h.kept h3⟩
  · rw [Array.getElem?_eq_getElem d] at h1
    exact (Array.getElem?_eq_some_iff.1 h1).1
  · rw [World.cell?_of_block (w := w) (a := ⟨B, 0, none⟩) h1]; exact e
  · rw [World.cell?_of_block (w := w) (a := ⟨B, 1, none⟩) h1]; exact f
theorem BoardAt.below {N : Nat} (h : BoardAt w B P Q n E O) (hb : Below N w w') (h1 : B < N) (h2 : P < N) (h3 : Q < N) : BoardAt w' B P Q n E O := h.kept (hb.block B h1) (hb.block P h2) (hb.block Q h3)
theorem BoardAt.only {g : Nat} (h : BoardAt w B P Q n E O) (hb : Only g w w') (h1 : B ≠ g) (h2 : P ≠ g) (h3 : Q ≠ g) : BoardAt w' B P Q n E O := h.kept (hb.block B h1) (hb.block P h2) (hb.block Q h3)
end

theorem board_setP {w : World} {B P Q n i : Nat} {E O : Nat → Int} (h : BoardAt w B P Q n E O) (hi : i < n) (x : Int) : BoardAt (w.drew.setCell ⟨P, i, none⟩ (.int .i64 x)) B P Q n (upd E i x) O := by
  have o := Only.drew_set (G := P) w ⟨P, i, none⟩ (.int .i64 x) rfl
  obtain ⟨a1, a2, a3, a4, a5, a6, a7, a8⟩ := h
  refine ⟨a1, a2, a3, by rw [o.size]; exact a4, ?_, ?_, (a7.drew).set hi _, a8.only o (Ne.symm a3)⟩
  · rw [World.cell?_of_block (w := w) (a := ⟨B, 0, none⟩) (o.block B a1)]; exact a5
  · rw [World.cell?_of_block (w := w) (a := ⟨B, 1, none⟩) (o.block B a1)]; exact a6
theorem Only.drewN_set {G : Nat} (w : World) (a : Addr) (u : Value) (h : a.block = G) (q : Nat) : Only G w ((w.drewN q).setCell a u) := ⟨rfl, rfl, rfl, size_setCell (w := w.drewN q) a u, fun k hk => Below.heap_setCell (w.drewN q) a u k (by omega)⟩
theorem board_setQ {w : World} {B P Q n i : Nat} {E O : Nat → Int} (h : BoardAt w B P Q n E O) (hi : i < n) (x : Int) (q : Nat) : BoardAt ((w.drewN q).setCell ⟨Q, i, none⟩ (.int .i64 x)) B P Q n E (upd O i x) := by
  have o := Only.drewN_set (G := Q) w ⟨Q, i, none⟩ (.int .i64 x) rfl q
  obtain ⟨a1, a2, a3, a4, a5, a6, a7, a8⟩ := h
  refine ⟨a1, a2, a3, by rw [o.size]; exact a4, ?_, ?_, a7.only o a3, (show Row1 (w.drewN q) Q n O from a8.kept rfl).set hi _⟩
  · rw [World.cell?_of_block (w := w) (a := ⟨B, 0, none⟩) (o.block B a2)]; exact a5
  · rw [World.cell?_of_block (w := w) (a := ⟨B, 1, none⟩) (o.block B a2)]; exact a6
theorem rclip_in (n : Int) (w : World) (h : 0 ≤ n ∧ n ≤ 1000000000) :
    Calls Try.prog 15 #[.int .i64 n] w fun e w' => e = .returned (.int .i64 n) ∧ w' = w := by
  go_enter Try.func15, Try.ntmps15
  go_wp2
  go_ret
  exact ⟨rfl, rfl⟩
theorem rin_yes (n lo hi : Int) (w : World) (h1 : lo ≤ n) (h2 : n ≤ hi) :
    Calls Try.prog 5 #[.int .i64 n, .int .i64 lo, .int .i64 hi] w fun e w' => e = .returned (.bool true) ∧ w' = w := by
  have d1 : decide (lo ≤ n) = true := by simp [h1]
  have d2 : decide (n ≤ hi) = true := by simp [h2]
  go_enter Try.func5, Try.ntmps5
  go_wp2
  go_ret
  exact ⟨rfl, rfl⟩
theorem rin_no (n lo hi : Int) (w : World) (h : ¬ (lo ≤ n ∧ n ≤ hi)) :
    Calls Try.prog 5 #[.int .i64 n, .int .i64 lo, .int .i64 hi] w fun e w' => e = .returned (.bool false) ∧ w' = w := by
  by_cases h1 : lo ≤ n
  · have d1 : decide (lo ≤ n) = true := by simp [h1]
    have d2 : decide (n ≤ hi) = false := by simp; omega
    clear h
    go_enter Try.func5, Try.ntmps5
    go_wp2
    go_ret
    exact ⟨rfl, rfl⟩
  · have d1 : decide (lo ≤ n) = false := by simp; omega
    clear h
    go_enter Try.func5, Try.ntmps5
    go_wp2
    go_ret
    exact ⟨rfl, rfl⟩

theorem bMake_none (B P Q n : Nat) (E O : Nat → Int) (p x : Int) (w : World) (hA : BoardAt w B P Q n E O) (h1 : 1 ≤ n) (h2 : n ≤ 20) (h : ¬ (0 ≤ p ∧ p < (n : Int))) :
    Calls Try.prog 7 #[.pointer (some ⟨B, 0, none⟩), .int .i64 p, .int .i64 x] w fun e w' => e = .returned (.int .i64 4) ∧ w' = w := by
  obtain ⟨_, _, _, _, c0, c1, _, _⟩ := hA
  have c := rin_no p 0 ((n : Int) - 1) w (by omega)
  clear h
  go_enter Try.func7, Try.ntmps7
  go_wp2_with (go_at_call 5; (with_reducible refine c.mono ?_); rintro e w' ⟨rfl, rfl⟩)
  go_ret
  exact ⟨rfl, rfl⟩
theorem bMake_arg (B P Q n : Nat) (E O : Nat → Int) (p x : Int) (w : World) (hA : BoardAt w B P Q n E O) (h2 : n ≤ 20) (h0 : 0 ≤ p) (h1 : p < (n : Int)) (h : ¬ (1 ≤ x ∧ x ≤ 100000)) :
    Calls Try.prog 7 #[.pointer (some ⟨B, 0, none⟩), .int .i64 p, .int .i64 x] w fun e w' => e = .returned (.int .i64 1) ∧ w' = w := by
  obtain ⟨_, _, _, _, c0, c1, _, _⟩ := hA
  have c := rin_yes p 0 ((n : Int) - 1) w (by omega) (by omega)
  have d := rin_no x 1 100000 w h
  clear h
  go_enter Try.func7, Try.ntmps7
  go_wp2_with (first | (go_at_call 5; (with_reducible refine c.mono ?_); rintro e w' ⟨rfl, h9⟩; have h8 := h9.symm; clear h9; subst h8) | (go_at_call 5; (with_reducible refine d.mono ?_); rintro e w' ⟨rfl, h9⟩; have h8 := h9.symm; clear h9; subst h8))
  go_ret
  exact ⟨rfl, rfl⟩
set_option maxHeartbeats 4000000 in
theorem bMake_yes (B P Q n i : Nat) (E O : Nat → Int) (x : Int) (w : World) (hA : BoardAt w B P Q n E O) (h2 : n ≤ 20) (hi : i < n) (hx : 1 ≤ x ∧ x ≤ 100000) (hv : 0 ≤ E i ∧ E i ≤ 100000000) :
    Calls Try.prog 7 #[.pointer (some ⟨B, 0, none⟩), .int .i64 (i : Int), .int .i64 x] w fun e w' => e = .returned (.int .i64 0) ∧ BoardAt w' B P Q n (upd E i (E i + x)) O ∧ Only P w w' := by
  have HA : Hid (BoardAt w B P Q n E O) := hA
  obtain ⟨hBP, hBQ, hPQ, _, c0, c1, hP, _⟩ := hA
  have g0 := hP.2.1 i hi
  have g1 := hP.2.2 i
  clear hP
  have c := rin_yes i 0 ((n : Int) - 1) w (by omega) (by omega)
  have d := rin_yes x 1 100000 w (by omega) (by omega)
  have f := fun w => rclip_in (E i + x) w (by omega)
  have hi' : (i : Int) < n := by omega
  go_enter Try.func7, Try.ntmps7
  go_wp2_with (first | (go_at_call 5; (with_reducible refine c.mono ?_); rintro e w' ⟨rfl, h9⟩; have h8 := h9.symm; clear h9; subst h8) | (go_at_call 5; (with_reducible refine d.mono ?_); rintro e w' ⟨rfl, h9⟩; have h8 := h9.symm; clear h9; subst h8))
  have hwr : IntKind.i64.wrap (E i + x) = E i + x := by rw [IntKind.wrap_i64]; omega
  go_region_with (go_at_call 15; (with_reducible refine (f _).mono ?_); rintro e w' ⟨rfl, rfl⟩)
  all_goals go_wp2
  all_goals go_ret
  all_goals
    have o := Only.drew_set (G := P) w ⟨P, i, none⟩ (.int .i64 (E i + x)) rfl
    exact ⟨rfl, board_setP HA.out hi (E i + x), o⟩

theorem bTake_none (B P Q n : Nat) (E O : Nat → Int) (p x : Int) (w : World) (hA : BoardAt w B P Q n E O) (h1 : 1 ≤ n) (h2 : n ≤ 20) (h : ¬ (0 ≤ p ∧ p < (n : Int))) :
    Calls Try.prog 9 #[.pointer (some ⟨B, 0, none⟩), .int .i64 p, .int .i64 x] w fun e w' => e = .returned (.int .i64 4) ∧ w' = w := by
  obtain ⟨_, _, _, _, c0, c1, _, _⟩ := hA
  have c := rin_no p 0 ((n : Int) - 1) w (by omega)
  clear h
  go_enter Try.func9, Try.ntmps9
  go_wp2_with (go_at_call 5; (with_reducible refine c.mono ?_); rintro e w' ⟨rfl, rfl⟩)
  go_ret
  exact ⟨rfl, rfl⟩
set_option maxHeartbeats 4000000 in
theorem bTake_no (B P Q n i : Nat) (E O : Nat → Int) (x : Int) (w : World) (hA : BoardAt w B P Q n E O) (h2 : n ≤ 20) (hi : i < n) (hx : ¬ (O i ≤ x ∧ x ≤ E i)) :
    Calls Try.prog 9 #[.pointer (some ⟨B, 0, none⟩), .int .i64 (i : Int), .int .i64 x] w fun e w' => e = .returned (.int .i64 1) ∧ ∃ q, w' = w.drewN q := by
  obtain ⟨hBP, hBQ, hPQ, _, c0, c1, hP, hQ⟩ := hA
  have g0 := hP.2.1 i hi
  have g1 := hQ.2.1 i hi
  clear hP hQ
  have c := rin_yes i 0 ((n : Int) - 1) w (by omega) (by omega)
  have d := fun w => rin_no x (O i) (E i) w hx
  have hi' : (i : Int) < n := by omega
  clear hx
  go_enter Try.func9, Try.ntmps9
  go_wp2_with (first | (go_at_call 5; (with_reducible refine c.mono ?_); rintro e w' ⟨rfl, h9⟩; have h8 := h9.symm; clear h9; subst h8))
  go_quiet (first | (go_at_call 5; with_reducible refine Calls.quiet_of_same (d _)))
  go_wp2
  go_ret
  exact ⟨rfl, nq, rfl⟩
set_option maxHeartbeats 4000000 in
theorem bTake_yes (B P Q n i : Nat) (E O : Nat → Int) (x : Int) (w : World) (hA : BoardAt w B P Q n E O) (h2 : n ≤ 20) (hi : i < n) (hx1 : O i ≤ x) (hx2 : x ≤ E i) :
    Calls Try.prog 9 #[.pointer (some ⟨B, 0, none⟩), .int .i64 (i : Int), .int .i64 x] w fun e w' => e = .returned (.int .i64 0) ∧ BoardAt w' B P Q n E (upd O i x) ∧ Only Q w w' := by
  have HA : Hid (BoardAt w B P Q n E O) := hA
  obtain ⟨hBP, hBQ, hPQ, _, c0, c1, hP, hQ⟩ := hA
  have g0 := hP.2.1 i hi
  have g1 := hQ.2.1 i hi
  have g2 := hQ.2.2 i
  clear hP hQ
  have c := rin_yes i 0 ((n : Int) - 1) w (by omega) (by omega)
  have d := fun w => rin_yes x (O i) (E i) w hx1 hx2
  have hi' : (i : Int) < n := by omega
  clear hx1 hx2
  go_enter Try.func9, Try.ntmps9
  go_wp2_with (first | (go_at_call 5; (with_reducible refine c.mono ?_); rintro e w' ⟨rfl, h9⟩; have h8 := h9.symm; clear h9; subst h8))
  go_quiet (first | (go_at_call 5; with_reducible refine Calls.quiet_of_same (d _)))
  go_wp2
  go_ret
  exact ⟨rfl, board_setQ HA.out hi x nq, Only.drewN_set (G := Q) w ⟨Q, i, none⟩ _ rfl nq⟩
end Top
end Go.Proofs.Ytmogbileofpcfab
