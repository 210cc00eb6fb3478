/- How the text of a cron is read: parseRow. -/
import Derived.Test.YtbfnjjdgiihngaaDoorParseWalks
import Derived.Lib.SlicesS
import Derived.Handy
namespace Go.Proofs.YtbfnjjdgiihngaaDoor
namespace Pie
open Go.RowKit Crn
set_option maxRecDepth 8000

theorem box_two (w : World) (A B : Array Value) (ta tb : TypeId) : (∀ o, ((w.alloc (.cells A ta)).alloc (.cells B tb)).cell? ⟨w.heap.size, o, none⟩ = A[o]?) ∧ (∀ o, ((w.alloc (.cells A ta)).alloc (.cells B tb)).cell? ⟨w.heap.size + 1, o, none⟩ = B[o]?) ∧
    (∀ o, ((w.alloc (.cells A ta)).alloc (.cells B tb)).frozen? ⟨w.heap.size + 1, o, none⟩ = false) ∧ w.heap.size + 1 < ((w.alloc (.cells A ta)).alloc (.cells B tb)).heap.size ∧ Below w.heap.size w ((w.alloc (.cells A ta)).alloc (.cells B tb)) := by
  have e : w.heap.size + 1 = (w.alloc (.cells A ta)).heap.size := by simp
  refine ⟨fun o => ?_, fun o => ?_, fun o => ?_, by simp, ((Below.refl _ _).alloc (Nat.le_refl _) _).alloc (by simp) _⟩
  · rw [World.cell?_of_block (w := w.alloc (.cells A ta)) (a := ⟨w.heap.size, o, none⟩) (Below.heap_alloc _ _ _ (by simp))]; simp
  · rw [e]; simp
  · rw [e]; simp
theorem cells_on {W w' : World} {N : Nat} {A : Array Value} (h : ∀ o, W.cell? ⟨N, o, none⟩ = A[o]?) (hb : Below W.heap.size W w') (hN : N < W.heap.size) : ∀ o, w'.cell? ⟨N, o, none⟩ = A[o]? :=
  fun o => (hb.cell (p := ⟨N, o, none⟩) hN).trans (h o)
theorem free_on {W w' : World} {N : Nat} (h : ∀ o, W.frozen? ⟨N, o, none⟩ = false) (hb : Below W.heap.size W w') (hN : N < W.heap.size) : ∀ o, w'.frozen? ⟨N, o, none⟩ = false :=
  fun o => (hb.frozen (p := ⟨N, o, none⟩) hN).trans (h o)
theorem below_drewN {B : Nat} {w w' : World} (h : Below B w w') (q : Nat) : Below B w (w'.drewN q) := ⟨h.os, h.tape, h.output, h.size, h.block⟩

/-- what parseNumber tells, once more -/
theorem pn_form (lo hi : Int) (t : List UInt8) : ∃ (n : Int) (o : Bool), pnV lo hi t = .tuple #[.int .i64 n, .bool o] ∧ (o = true → num2 t = some n ∧ lo ≤ n ∧ n ≤ hi) ∧ (o = false → ∀ m, num2 t = some m → ¬ (lo ≤ m ∧ m ≤ hi)) := by
  unfold pnV
  cases h : num2 t with
  | none => exact ⟨0, false, rfl, (fun h => by cases h), (fun _ m h => by cases h)⟩
  | some n =>
    refine ⟨n, bhB lo hi n, rfl, fun h => ?_, fun h m hm => ?_⟩
    · unfold bhB at h; rw [decide_eq_true_eq] at h; exact ⟨rfl, h⟩
    · cases hm; unfold bhB at h; rw [decide_eq_false_iff_not] at h; exact h
/-- what parseRow tells -/
def RowAns (lo hi : Int) (t : List UInt8) (e : Ending) : Prop := ∃ (x y : Int) (z o : Bool), e = .returned (.tuple #[bdV x y, .bool z, .bool o]) ∧ (o = true → rowS lo hi t = some (x, y, z)) ∧ (o = false → rowS lo hi t = none)

theorem row_two' {lo hi : Int} {t x y : List UInt8} {n m : Int} {o p : Bool} (hs : t ≠ [42]) (hc : cutS 45 t = some (x, y)) (h1 : o = true → num2 x = some n ∧ lo ≤ n ∧ n ≤ hi) (h2 : o = false → ∀ m, num2 x = some m → ¬ (lo ≤ m ∧ m ≤ hi))
    (h3 : p = true → num2 y = some m ∧ lo ≤ m ∧ m ≤ hi) (h4 : p = false → ∀ n, num2 y = some n → ¬ (lo ≤ n ∧ n ≤ hi)) :
    ((o = true ∧ p = true ∧ n ≤ m) → rowS lo hi t = some (n, m, false)) ∧ (¬ (o = true ∧ p = true ∧ n ≤ m) → rowS lo hi t = none) := by
  unfold rowS
  rw [if_neg hs, hc]
  dsimp only
  constructor
  · rintro ⟨rfl, rfl, h⟩
    obtain ⟨a1, a2⟩ := h1 rfl
    obtain ⟨b1, b2⟩ := h3 rfl
    rw [a1, b1]
    dsimp only
    rw [if_pos ⟨a2, b2, h⟩]
  · intro h
    cases e1 : num2 x with
    | none => rfl
    | some a =>
      cases e2 : num2 y with
      | none => rfl
      | some b =>
        dsimp only
        rw [if_neg]
        rintro ⟨g1, g2, g3⟩
        cases o
        · exact h2 rfl a e1 g1
        · cases p
          · exact h4 rfl b e2 g2
          · obtain ⟨a1, _⟩ := h1 rfl
            obtain ⟨b1, _⟩ := h3 rfl
            rw [a1] at e1; rw [b1] at e2; cases e1; cases e2
            exact h ⟨rfl, rfl, g3⟩
theorem row_one' {lo hi : Int} {t : List UInt8} {n : Int} {o : Bool} (hs : t ≠ [42]) (hc : cutS 45 t = none) (h1 : o = true → num2 t = some n ∧ lo ≤ n ∧ n ≤ hi) (h2 : o = false → ∀ m, num2 t = some m → ¬ (lo ≤ m ∧ m ≤ hi)) :
    (o = true → rowS lo hi t = some (n, n, true)) ∧ (o = false → rowS lo hi t = none) := by
  unfold rowS
  rw [if_neg hs, hc]
  dsimp only
  constructor
  · intro h
    obtain ⟨a1, a2⟩ := h1 h
    rw [a1]
    dsimp only
    rw [if_pos a2]
  · intro h
    cases e1 : num2 t with
    | none => rfl
    | some a => dsimp only; rw [if_neg (h2 h a e1)]
theorem fin2 {w3 : World} {N : Nat} {a b : Value} (x y : Value) (d0 : w3.cell? ⟨N, 0, none⟩ = some a) (d1 : w3.cell? ⟨N, 1, none⟩ = some b) :
    ∃ W : World, W = (w3.setCell ⟨N, 0, none⟩ x).setCell ⟨N, 1, none⟩ y ∧ W.cell? ⟨N, 0, none⟩ = some x ∧ W.cell? ⟨N, 1, none⟩ = some y ∧ ∀ (B : Nat) (w : World), B ≤ N → Below B w w3 → Below B w W := by
  have ne : (⟨N, 0, none⟩ : Addr) ≠ ⟨N, 1, none⟩ := fun e => by cases e
  refine ⟨_, rfl, ?_, ?_, fun B w hB h => (h.setCell hB _).setCell hB _⟩
  · rw [World.cell?_setCell_other (h := ne.symm)]; exact World.cell?_setCell_same _ _ _ d0
  · refine World.cell?_setCell_same _ _ _ (u := b) ?_
    rw [World.cell?_setCell_other (h := ne)]; exact d1
theorem star_ne {t : List UInt8} (h : t ≠ [42]) : (t == [42]) = false := beq_eq_false_iff_ne.2 h

set_option maxHeartbeats 4000000 in
theorem row_star (lo hi : Int) (w : World) :
    Calls Tryd.prog 67 #[strV [42], bdV lo hi] w fun e w' => RowAns lo hi [42] e ∧ Below w.heap.size w w' := by
  go_enter Tryd.func67, Tryd.ntmps67
  go_wp2
  go_returns
  exact ⟨⟨lo, hi, false, true, rfl, fun _ => by unfold rowS; rw [if_pos rfl], fun h => by cases h⟩, ((Below.refl _ _).alloc (Nat.le_refl _) _).alloc (by simp) _⟩
set_option maxHeartbeats 8000000 in
theorem row_single (t : List UInt8) (lo hi : Int) (w : World) (hs : t ≠ [42]) (hc : (45 : UInt8) ∉ t) (hl : t.length ≤ 4294967281) :
    Calls Tryd.prog 67 #[strV t, bdV lo hi] w fun e w' => RowAns lo hi t e ∧ Below w.heap.size w w' := by
  have hne := star_ne hs
  obtain ⟨n, o, hv, h1, h2⟩ := pn_form lo hi t
  have HR : Hid ((o = true → rowS lo hi t = some (n, n, true)) ∧ (o = false → rowS lo hi t = none)) := row_one' hs (cutS_none hc) h1 h2
  have cC := fun w => cut_no t 45 w hc
  have c1 := fun w => pn_any t lo hi w hl
  rw [hv] at c1
  clear hs hc h1 h2 hv
  obtain ⟨hC0, hD0, hF0, hz0, hw0⟩ := box_two w (#[Value.int .i64 lo, .int .i64 hi]) (#[Value.int .i64 0, .int .i64 0]) 60 60
  obtain ⟨w0, hw⟩ : ∃ w0, w0 = (w.alloc (.cells (#[Value.int .i64 lo, .int .i64 hi]) 60)).alloc (.cells (#[Value.int .i64 0, .int .i64 0]) 60) := ⟨_, rfl⟩
  rw [← hw] at hC0 hD0 hF0 hz0 hw0
  cases o
  · go_enter Tryd.func67, Tryd.ntmps67
    go_wp2_with (first
      | (go_at_call 66; rw [← hw]; (with_reducible refine (cC _).mono ?_); rintro e w1 ⟨rfl, h9⟩; have hb1 : Below w0.heap.size w0 w1 := (by rw [h9]; exact Below.refl _ _); clear h9; have hC1 := cells_on hC0 hb1 (by omega); have hD1 := cells_on hD0 hb1 hz0; have hF1 := free_on hF0 hb1 hz0; have hz1 : w.heap.size + 1 < w1.heap.size := Nat.lt_of_lt_of_le hz0 hb1.size; have hw1 : Below w.heap.size w w1 := hw0.trans (hb1.mono hw0.size))
      | (go_at_call 68; have hk2 := hw2; (with_reducible refine (c1 _).mono ?_); rintro e w3 ⟨rfl, hb3⟩; have hC3 := cells_on hC2 hb3 (by omega); have hD3 := cells_on hD2 hb3 hz2; have hF3 := free_on hF2 hb3 hz2; have hz3 : w.heap.size + 1 < w3.heap.size := Nat.lt_of_lt_of_le hz2 hb3.size; have hw3 : Below w.heap.size w w3 := hw2.trans (hb3.mono hw2.size); have d0 : w3.cell? ⟨w.heap.size + 1, 0, none⟩ = some (.int .i64 0) := hD3 0; have d1 : w3.cell? ⟨w.heap.size + 1, 1, none⟩ = some (.int .i64 0) := hD3 1; have d2 := hF3 0; have d3 := hF3 1; clear hC3 hD3 hF3)
      | (go_at_call 68; (with_reducible refine (c1 _).mono ?_); rintro e w2 ⟨rfl, hb2⟩; have hC2 := cells_on hC1 hb2 (by omega); have hD2 := cells_on hD1 hb2 hz1; have hF2 := free_on hF1 hb2 hz1; have hz2 : w.heap.size + 1 < w2.heap.size := Nat.lt_of_lt_of_le hz1 hb2.size; have hw2 : Below w.heap.size w w2 := hw1.trans (hb2.mono hw1.size)))
    obtain ⟨W, hW, f0, f1, hbW⟩ := fin2 (.int .i64 n) (.int .i64 n) d0 d1
    rw [← hW]
    clear hW
    refine bodyPost_ret (v := .tuple #[bdV n n, .bool true, .bool false]) (by simp [results, Tryd.results67, go_sem, f0, f1]) rfl ?_
    exact ⟨⟨n, n, true, false, rfl, (fun h => by cases h), (fun _ => HR.out.2 trivial)⟩, hbW _ _ (Nat.le_succ _) hw3⟩
  · go_enter Tryd.func67, Tryd.ntmps67
    go_wp2_with (first
      | (go_at_call 66; rw [← hw]; (with_reducible refine (cC _).mono ?_); rintro e w1 ⟨rfl, h9⟩; have hb1 : Below w0.heap.size w0 w1 := (by rw [h9]; exact Below.refl _ _); clear h9; have hC1 := cells_on hC0 hb1 (by omega); have hD1 := cells_on hD0 hb1 hz0; have hF1 := free_on hF0 hb1 hz0; have hz1 : w.heap.size + 1 < w1.heap.size := Nat.lt_of_lt_of_le hz0 hb1.size; have hw1 : Below w.heap.size w w1 := hw0.trans (hb1.mono hw0.size))
      | (go_at_call 68; have hk2 := hw2; (with_reducible refine (c1 _).mono ?_); rintro e w3 ⟨rfl, hb3⟩; have hC3 := cells_on hC2 hb3 (by omega); have hD3 := cells_on hD2 hb3 hz2; have hF3 := free_on hF2 hb3 hz2; have hz3 : w.heap.size + 1 < w3.heap.size := Nat.lt_of_lt_of_le hz2 hb3.size; have hw3 : Below w.heap.size w w3 := hw2.trans (hb3.mono hw2.size); have d0 : w3.cell? ⟨w.heap.size + 1, 0, none⟩ = some (.int .i64 0) := hD3 0; have d1 : w3.cell? ⟨w.heap.size + 1, 1, none⟩ = some (.int .i64 0) := hD3 1; have d2 := hF3 0; have d3 := hF3 1; clear hC3 hD3 hF3)
      | (go_at_call 68; (with_reducible refine (c1 _).mono ?_); rintro e w2 ⟨rfl, hb2⟩; have hC2 := cells_on hC1 hb2 (by omega); have hD2 := cells_on hD1 hb2 hz1; have hF2 := free_on hF1 hb2 hz1; have hz2 : w.heap.size + 1 < w2.heap.size := Nat.lt_of_lt_of_le hz1 hb2.size; have hw2 : Below w.heap.size w w2 := hw1.trans (hb2.mono hw1.size)))
    obtain ⟨W, hW, f0, f1, hbW⟩ := fin2 (.int .i64 n) (.int .i64 n) d0 d1
    rw [← hW]
    clear hW
    refine bodyPost_ret (v := .tuple #[bdV n n, .bool true, .bool true]) (by simp [results, Tryd.results67, go_sem, f0, f1]) rfl ?_
    exact ⟨⟨n, n, true, true, rfl, (fun _ => HR.out.1 trivial), (fun h => by cases h)⟩, hbW _ _ (Nat.le_succ _) hw3⟩
set_option maxHeartbeats 8000000 in
theorem row_double (x y : List UInt8) (lo hi : Int) (w : World) (hx : (45 : UInt8) ∉ x) (hl : (x ++ 45 :: y).length ≤ 4294967281) :
    Calls Tryd.prog 67 #[strV (x ++ 45 :: y), bdV lo hi] w fun e w' => RowAns lo hi (x ++ 45 :: y) e ∧ Below w.heap.size w w' := by
  have hs : x ++ 45 :: y ≠ [42] := fun e => by
    have : (45 : UInt8) ∈ ([42] : List UInt8) := by rw [← e]; simp
    simp at this
  have hne := star_ne hs
  obtain ⟨n, o, hv, h1, h2⟩ := pn_form lo hi x
  obtain ⟨m, p, hv2, h3, h4⟩ := pn_form lo hi y
  have HR : Hid (((o = true ∧ p = true ∧ n ≤ m) → rowS lo hi (x ++ 45 :: y) = some (n, m, false)) ∧ (¬ (o = true ∧ p = true ∧ n ≤ m) → rowS lo hi (x ++ 45 :: y) = none)) := row_two' hs (cutS_hit hx) h1 h2 h3 h4
  have cC := fun w => cut_yes x y 45 w hx hl
  simp at hl
  have c1 := fun w => pn_any x lo hi w (by omega)
  have c2 := fun w => pn_any y lo hi w (by omega)
  rw [hv] at c1
  rw [hv2] at c2
  clear hs hx h1 h2 hv h3 h4 hv2 hl
  obtain ⟨hC0, hD0, hF0, hz0, hw0⟩ := box_two w (#[Value.int .i64 lo, .int .i64 hi]) (#[Value.int .i64 0, .int .i64 0]) 60 60
  obtain ⟨w0, hw⟩ : ∃ w0, w0 = (w.alloc (.cells (#[Value.int .i64 lo, .int .i64 hi]) 60)).alloc (.cells (#[Value.int .i64 0, .int .i64 0]) 60) := ⟨_, rfl⟩
  rw [← hw] at hC0 hD0 hF0 hz0 hw0
  cases o
  · go_enter Tryd.func67, Tryd.ntmps67
    go_wp2_with (first
      | (go_at_call 66; rw [← hw]; (with_reducible refine (cC _).mono ?_); rintro e w1 ⟨rfl, q, h9⟩; have hb1 : Below w0.heap.size w0 w1 := (by rw [h9]; exact below_drewN (Below.refl _ _) q); clear h9; have hC1 := cells_on hC0 hb1 (by omega); have hD1 := cells_on hD0 hb1 hz0; have hF1 := free_on hF0 hb1 hz0; have hz1 : w.heap.size + 1 < w1.heap.size := Nat.lt_of_lt_of_le hz0 hb1.size; have hw1 : Below w.heap.size w w1 := hw0.trans (hb1.mono hw0.size))
      | (go_at_call 68; have hk2 := hw2; (with_reducible refine (c2 _).mono ?_); rintro e w3 ⟨rfl, hb3⟩; have hC3 := cells_on hC2 hb3 (by omega); have hD3 := cells_on hD2 hb3 hz2; have hF3 := free_on hF2 hb3 hz2; have hz3 : w.heap.size + 1 < w3.heap.size := Nat.lt_of_lt_of_le hz2 hb3.size; have hw3 : Below w.heap.size w w3 := hw2.trans (hb3.mono hw2.size); have d0 : w3.cell? ⟨w.heap.size + 1, 0, none⟩ = some (.int .i64 0) := hD3 0; have d1 : w3.cell? ⟨w.heap.size + 1, 1, none⟩ = some (.int .i64 0) := hD3 1; have d2 := hF3 0; have d3 := hF3 1; clear hC3 hD3 hF3)
      | (go_at_call 68; (with_reducible refine (c1 _).mono ?_); rintro e w2 ⟨rfl, hb2⟩; have hC2 := cells_on hC1 hb2 (by omega); have hD2 := cells_on hD1 hb2 hz1; have hF2 := free_on hF1 hb2 hz1; have hz2 : w.heap.size + 1 < w2.heap.size := Nat.lt_of_lt_of_le hz1 hb2.size; have hw2 : Below w.heap.size w w2 := hw1.trans (hb2.mono hw1.size)))
    obtain ⟨W, hW, f0, f1, hbW⟩ := fin2 (.int .i64 n) (.int .i64 m) d0 d1
    rw [← hW]
    clear hW
    refine bodyPost_ret (v := .tuple #[bdV n m, .bool false, .bool false]) (by simp [results, Tryd.results67, go_sem, f0, f1]) rfl ?_
    exact ⟨⟨n, m, false, false, rfl, (fun h => by cases h), (fun _ => HR.out.2 (by simp))⟩, hbW _ _ (Nat.le_succ _) hw3⟩
  · cases p
    · go_enter Tryd.func67, Tryd.ntmps67
      go_wp2_with (first
        | (go_at_call 66; rw [← hw]; (with_reducible refine (cC _).mono ?_); rintro e w1 ⟨rfl, q, h9⟩; have hb1 : Below w0.heap.size w0 w1 := (by rw [h9]; exact below_drewN (Below.refl _ _) q); clear h9; have hC1 := cells_on hC0 hb1 (by omega); have hD1 := cells_on hD0 hb1 hz0; have hF1 := free_on hF0 hb1 hz0; have hz1 : w.heap.size + 1 < w1.heap.size := Nat.lt_of_lt_of_le hz0 hb1.size; have hw1 : Below w.heap.size w w1 := hw0.trans (hb1.mono hw0.size))
        | (go_at_call 68; have hk2 := hw2; (with_reducible refine (c2 _).mono ?_); rintro e w3 ⟨rfl, hb3⟩; have hC3 := cells_on hC2 hb3 (by omega); have hD3 := cells_on hD2 hb3 hz2; have hF3 := free_on hF2 hb3 hz2; have hz3 : w.heap.size + 1 < w3.heap.size := Nat.lt_of_lt_of_le hz2 hb3.size; have hw3 : Below w.heap.size w w3 := hw2.trans (hb3.mono hw2.size); have d0 : w3.cell? ⟨w.heap.size + 1, 0, none⟩ = some (.int .i64 0) := hD3 0; have d1 : w3.cell? ⟨w.heap.size + 1, 1, none⟩ = some (.int .i64 0) := hD3 1; have d2 := hF3 0; have d3 := hF3 1; clear hC3 hD3 hF3)
        | (go_at_call 68; (with_reducible refine (c1 _).mono ?_); rintro e w2 ⟨rfl, hb2⟩; have hC2 := cells_on hC1 hb2 (by omega); have hD2 := cells_on hD1 hb2 hz1; have hF2 := free_on hF1 hb2 hz1; have hz2 : w.heap.size + 1 < w2.heap.size := Nat.lt_of_lt_of_le hz1 hb2.size; have hw2 : Below w.heap.size w w2 := hw1.trans (hb2.mono hw1.size)))
      obtain ⟨W, hW, f0, f1, hbW⟩ := fin2 (.int .i64 n) (.int .i64 m) d0 d1
      rw [← hW]
      clear hW
      refine bodyPost_ret (v := .tuple #[bdV n m, .bool false, .bool false]) (by simp [results, Tryd.results67, go_sem, f0, f1]) rfl ?_
      exact ⟨⟨n, m, false, false, rfl, (fun h => by cases h), (fun _ => HR.out.2 (by simp))⟩, hbW _ _ (Nat.le_succ _) hw3⟩
    · by_cases hnm : n ≤ m
      · have d : decide (n ≤ m) = true := by simp [hnm]
        go_enter Tryd.func67, Tryd.ntmps67
        go_wp2_with (first
          | (go_at_call 66; rw [← hw]; (with_reducible refine (cC _).mono ?_); rintro e w1 ⟨rfl, q, h9⟩; have hb1 : Below w0.heap.size w0 w1 := (by rw [h9]; exact below_drewN (Below.refl _ _) q); clear h9; have hC1 := cells_on hC0 hb1 (by omega); have hD1 := cells_on hD0 hb1 hz0; have hF1 := free_on hF0 hb1 hz0; have hz1 : w.heap.size + 1 < w1.heap.size := Nat.lt_of_lt_of_le hz0 hb1.size; have hw1 : Below w.heap.size w w1 := hw0.trans (hb1.mono hw0.size))
          | (go_at_call 68; have hk2 := hw2; (with_reducible refine (c2 _).mono ?_); rintro e w3 ⟨rfl, hb3⟩; have hC3 := cells_on hC2 hb3 (by omega); have hD3 := cells_on hD2 hb3 hz2; have hF3 := free_on hF2 hb3 hz2; have hz3 : w.heap.size + 1 < w3.heap.size := Nat.lt_of_lt_of_le hz2 hb3.size; have hw3 : Below w.heap.size w w3 := hw2.trans (hb3.mono hw2.size); have d0 : w3.cell? ⟨w.heap.size + 1, 0, none⟩ = some (.int .i64 0) := hD3 0; have d1 : w3.cell? ⟨w.heap.size + 1, 1, none⟩ = some (.int .i64 0) := hD3 1; have d2 := hF3 0; have d3 := hF3 1; clear hC3 hD3 hF3)
          | (go_at_call 68; (with_reducible refine (c1 _).mono ?_); rintro e w2 ⟨rfl, hb2⟩; have hC2 := cells_on hC1 hb2 (by omega); have hD2 := cells_on hD1 hb2 hz1; have hF2 := free_on hF1 hb2 hz1; have hz2 : w.heap.size + 1 < w2.heap.size := Nat.lt_of_lt_of_le hz1 hb2.size; have hw2 : Below w.heap.size w w2 := hw1.trans (hb2.mono hw1.size)))
        obtain ⟨W, hW, f0, f1, hbW⟩ := fin2 (.int .i64 n) (.int .i64 m) d0 d1
        rw [← hW]
        clear hW
        refine bodyPost_ret (v := .tuple #[bdV n m, .bool false, .bool true]) (by simp [results, Tryd.results67, go_sem, f0, f1]) rfl ?_
        exact ⟨⟨n, m, false, true, rfl, (fun _ => HR.out.1 (by first | exact ⟨trivial, trivial, by omega⟩ | omega)), (fun h => by cases h)⟩, hbW _ _ (Nat.le_succ _) hw3⟩
      · have d : decide (n ≤ m) = false := by simp; omega
        go_enter Tryd.func67, Tryd.ntmps67
        go_wp2_with (first
          | (go_at_call 66; rw [← hw]; (with_reducible refine (cC _).mono ?_); rintro e w1 ⟨rfl, q, h9⟩; have hb1 : Below w0.heap.size w0 w1 := (by rw [h9]; exact below_drewN (Below.refl _ _) q); clear h9; have hC1 := cells_on hC0 hb1 (by omega); have hD1 := cells_on hD0 hb1 hz0; have hF1 := free_on hF0 hb1 hz0; have hz1 : w.heap.size + 1 < w1.heap.size := Nat.lt_of_lt_of_le hz0 hb1.size; have hw1 : Below w.heap.size w w1 := hw0.trans (hb1.mono hw0.size))
          | (go_at_call 68; have hk2 := hw2; (with_reducible refine (c2 _).mono ?_); rintro e w3 ⟨rfl, hb3⟩; have hC3 := cells_on hC2 hb3 (by omega); have hD3 := cells_on hD2 hb3 hz2; have hF3 := free_on hF2 hb3 hz2; have hz3 : w.heap.size + 1 < w3.heap.size := Nat.lt_of_lt_of_le hz2 hb3.size; have hw3 : Below w.heap.size w w3 := hw2.trans (hb3.mono hw2.size); have d0 : w3.cell? ⟨w.heap.size + 1, 0, none⟩ = some (.int .i64 0) := hD3 0; have d1 : w3.cell? ⟨w.heap.size + 1, 1, none⟩ = some (.int .i64 0) := hD3 1; have d2 := hF3 0; have d3 := hF3 1; clear hC3 hD3 hF3)
          | (go_at_call 68; (with_reducible refine (c1 _).mono ?_); rintro e w2 ⟨rfl, hb2⟩; have hC2 := cells_on hC1 hb2 (by omega); have hD2 := cells_on hD1 hb2 hz1; have hF2 := free_on hF1 hb2 hz1; have hz2 : w.heap.size + 1 < w2.heap.size := Nat.lt_of_lt_of_le hz1 hb2.size; have hw2 : Below w.heap.size w w2 := hw1.trans (hb2.mono hw1.size)))
        obtain ⟨W, hW, f0, f1, hbW⟩ := fin2 (.int .i64 n) (.int .i64 m) d0 d1
        rw [← hW]
        clear hW
        refine bodyPost_ret (v := .tuple #[bdV n m, .bool false, .bool false]) (by simp [results, Tryd.results67, go_sem, f0, f1]) rfl ?_
        exact ⟨⟨n, m, false, false, rfl, (fun h => by cases h), (fun _ => HR.out.2 (by simp; omega))⟩, hbW _ _ (Nat.le_succ _) hw3⟩
theorem row_any (t : List UInt8) (lo hi : Int) (w : World) (hl : t.length ≤ 4294967281) :
    Calls Tryd.prog 67 #[strV t, bdV lo hi] w fun e w' => RowAns lo hi t e ∧ Below w.heap.size w w' := by
  by_cases hs : t = [42]
  · subst hs; exact row_star lo hi w
  · rcases cut_cases 45 t with h | ⟨x, y, rfl, h⟩
    · exact row_single t lo hi w hs h hl
    · exact row_double x y lo hi w h hl

end Pie
end Go.Proofs.YtbfnjjdgiihngaaDoor
