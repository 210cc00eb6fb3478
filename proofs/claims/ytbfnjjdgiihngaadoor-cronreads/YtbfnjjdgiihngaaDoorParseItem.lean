/- How the text of a cron is read: parseItem, parseWord. -/
import Derived.Test.YtbfnjjdgiihngaaDoorParseEach
namespace Go.Proofs.YtbfnjjdgiihngaaDoor
namespace Pie
open Go.RowKit Crn
set_option maxRecDepth 8000

/-- what parseItem tells -/
def ItemAns (lo hi : Int) (t : List UInt8) (e : Ending) : Prop := ∃ (v : Int) (o : Bool), e = .returned (.tuple #[.int .u64 v, .bool o]) ∧ (o = true → ∃ p, itemS lo hi t = some p ∧ SetIs [p] v) ∧ (o = false → itemS lo hi t = none)
theorem item_none {lo hi : Int} {t : List UInt8} {v : Int} (h : itemS lo hi t = none) : ItemAns lo hi t (.returned (.tuple #[.int .u64 v, .bool false])) := ⟨v, false, rfl, (fun g => by cases g), fun _ => h⟩
theorem item_some {lo hi : Int} {t : List UInt8} {v : Int} {p : Int × Int × Int} (h : itemS lo hi t = some p) (g : SetIs [p] v) : ItemAns lo hi t (.returned (.tuple #[.int .u64 v, .bool true])) := ⟨v, true, rfl, (fun _ => ⟨p, h, g⟩), (fun g => by cases g)⟩
/-- what parseRow tells, told apart -/
theorem row_case (t : List UInt8) (lo hi : Int) (hl : t.length ≤ 4294967281) : (rowS lo hi t = none ∧ ∀ w, Calls Tryd.prog 67 #[strV t, bdV lo hi] w fun e w' => ∃ (x y : Int) (z : Bool), e = .returned (.tuple #[bdV x y, .bool z, .bool false]) ∧ Below w.heap.size w w') ∨
    ∃ x y z, rowS lo hi t = some (x, y, z) ∧ ∀ w, Calls Tryd.prog 67 #[strV t, bdV lo hi] w fun e w' => e = .returned (.tuple #[bdV x y, .bool z, .bool true]) ∧ Below w.heap.size w w' := by
  cases h : rowS lo hi t with
  | none =>
    refine Or.inl ⟨rfl, fun w => (row_any t lo hi w hl).mono ?_⟩
    rintro e w' ⟨⟨x, y, z, o, rfl, h1, h2⟩, hb⟩
    cases o
    · exact ⟨x, y, z, rfl, hb⟩
    · rw [h1 rfl] at h; cases h
  | some p =>
    obtain ⟨x, y, z⟩ := p
    refine Or.inr ⟨x, y, z, rfl, fun w => (row_any t lo hi w hl).mono ?_⟩
    rintro e w' ⟨⟨x', y', z', o, rfl, h1, h2⟩, hb⟩
    cases o
    · rw [h2 rfl] at h; cases h
    · rw [h1 rfl] at h; cases h; exact ⟨rfl, hb⟩

set_option maxHeartbeats 8000000 in
theorem item_plain (t : List UInt8) (lo hi : Int) (w : World) (hc : (47 : UInt8) ∉ t) (hl : t.length ≤ 4294967281) (h0 : 0 ≤ lo) (h1 : lo ≤ hi) (h2 : hi ≤ 63) :
    Calls Tryd.prog 50 #[strV t, bdV lo hi] w fun e w' => ItemAns lo hi t e ∧ Below w.heap.size w w' := by
  have cC := fun w => cut_no t 47 w hc
  have HI : Hid (cutS 47 t = none) := cutS_none hc
  clear hc
  rcases row_case t lo hi hl with ⟨hr, cR⟩ | ⟨a, b, z, hr, cR⟩
  · have HN : Hid (itemS lo hi t = none) := by unfold Hid itemS; rw [HI.out]; dsimp only; rw [hr]
    clear hr HI
    obtain ⟨w0, hw⟩ : ∃ w0, w0 = w.alloc (.cells (#[Value.int .i64 lo, .int .i64 hi]) 60) := ⟨_, rfl⟩
    have hC0 : ∀ o, w0.cell? ⟨w.heap.size, o, none⟩ = (#[Value.int .i64 lo, .int .i64 hi])[o]? := fun o => by rw [hw]; simp
    have hz0 : w.heap.size < w0.heap.size := by rw [hw]; simp
    have hw0 : Below w.heap.size w w0 := by rw [hw]; exact (Below.refl _ _).alloc (Nat.le_refl _) _
    go_enter Tryd.func50, Tryd.ntmps50
    go_wp2_with (first
      | (go_at_call 66; rw [← hw]; (with_reducible refine (cC _).mono ?_); rintro e w1 ⟨rfl, h9⟩; have hb1 : Below w0.heap.size w0 w1 := (by rw [h9]; exact Below.refl _ _); clear h9; have hC1 := cells_on hC0 hb1 hz0; have hz1 : w.heap.size < w1.heap.size := Nat.lt_of_lt_of_le hz0 hb1.size; have hw1 : Below w.heap.size w w1 := hw0.trans (hb1.mono hw0.size))
      | (go_at_call 67; (with_reducible refine (cR _).mono ?_); rintro e w2 ⟨a, b, z, rfl, hb2⟩; have hC2 := cells_on hC1 hb2 hz1; have hz2 : w.heap.size < w2.heap.size := Nat.lt_of_lt_of_le hz1 hb2.size; have hw2 : Below w.heap.size w w2 := hw1.trans (hb2.mono hw1.size)))
    go_ret2
    exact ⟨item_none HN.out, hw2.alloc hw2.size _⟩
  · have HN : Hid (itemS lo hi t = some (a, b, 1)) := by unfold Hid itemS; rw [HI.out]; dsimp only; rw [hr]
    obtain ⟨r1, r2, r3⟩ := rowS_bd h1 hr
    have cE := fun w => each_any a b 1 w (by omega) r2 (by omega) (by omega) (by omega)
    clear hr HI
    obtain ⟨w0, hw⟩ : ∃ w0, w0 = w.alloc (.cells (#[Value.int .i64 lo, .int .i64 hi]) 60) := ⟨_, rfl⟩
    have hC0 : ∀ o, w0.cell? ⟨w.heap.size, o, none⟩ = (#[Value.int .i64 lo, .int .i64 hi])[o]? := fun o => by rw [hw]; simp
    have hz0 : w.heap.size < w0.heap.size := by rw [hw]; simp
    have hw0 : Below w.heap.size w w0 := by rw [hw]; exact (Below.refl _ _).alloc (Nat.le_refl _) _
    go_enter Tryd.func50, Tryd.ntmps50
    cases z
    · go_wp2_with (first
        | (go_at_call 66; rw [← hw]; (with_reducible refine (cC _).mono ?_); rintro e w1 ⟨rfl, h9⟩; have hb1 : Below w0.heap.size w0 w1 := (by rw [h9]; exact Below.refl _ _); clear h9; have hC1 := cells_on hC0 hb1 hz0; have hz1 : w.heap.size < w1.heap.size := Nat.lt_of_lt_of_le hz0 hb1.size; have hw1 : Below w.heap.size w w1 := hw0.trans (hb1.mono hw0.size))
        | (go_at_call 67; (with_reducible refine (cR _).mono ?_); rintro e w2 ⟨rfl, hb2⟩; have hC2 := cells_on hC1 hb2 hz1; have hz2 : w.heap.size < w2.heap.size := Nat.lt_of_lt_of_le hz1 hb2.size; have hw2 : Below w.heap.size w w2 := hw1.trans (hb2.mono hw1.size))
        | (go_at_call 69; (with_reducible refine (cE _).mono ?_); rintro e w3 ⟨v, rfl, hv, hb3⟩))
      go_ret2
      exact ⟨item_some HN.out hv, (hw2.alloc hw2.size _).trans (hb3.mono (by simp; exact Nat.le_trans hw2.size (Nat.le_succ _)))⟩
    · go_wp2_with (first
        | (go_at_call 66; rw [← hw]; (with_reducible refine (cC _).mono ?_); rintro e w1 ⟨rfl, h9⟩; have hb1 : Below w0.heap.size w0 w1 := (by rw [h9]; exact Below.refl _ _); clear h9; have hC1 := cells_on hC0 hb1 hz0; have hz1 : w.heap.size < w1.heap.size := Nat.lt_of_lt_of_le hz0 hb1.size; have hw1 : Below w.heap.size w w1 := hw0.trans (hb1.mono hw0.size))
        | (go_at_call 67; (with_reducible refine (cR _).mono ?_); rintro e w2 ⟨rfl, hb2⟩; have hC2 := cells_on hC1 hb2 hz1; have hz2 : w.heap.size < w2.heap.size := Nat.lt_of_lt_of_le hz1 hb2.size; have hw2 : Below w.heap.size w w2 := hw1.trans (hb2.mono hw1.size))
        | (go_at_call 69; (with_reducible refine (cE _).mono ?_); rintro e w3 ⟨v, rfl, hv, hb3⟩))
      go_ret2
      exact ⟨item_some HN.out hv, (hw2.alloc hw2.size _).trans (hb3.mono (by simp; exact Nat.le_trans hw2.size (Nat.le_succ _)))⟩

set_option maxHeartbeats 8000000 in
theorem item_step (x y : List UInt8) (lo hi : Int) (w : World) (hc : (47 : UInt8) ∉ x) (hl : (x ++ 47 :: y).length ≤ 4294967281) (h0 : 0 ≤ lo) (h1 : lo ≤ hi) (h2 : hi ≤ 63) :
    Calls Tryd.prog 50 #[strV (x ++ 47 :: y), bdV lo hi] w fun e w' => ItemAns lo hi (x ++ 47 :: y) e ∧ Below w.heap.size w w' := by
  have cC := fun w => cut_yes x y 47 w hc hl
  have HI : Hid (cutS 47 (x ++ 47 :: y) = some (x, y)) := cutS_hit hc
  simp at hl
  clear hc
  rcases row_case x lo hi (by omega) with ⟨hr, cR⟩ | ⟨a, b, z, hr, cR⟩
  · have HN : Hid (itemS lo hi (x ++ 47 :: y) = none) := by unfold Hid itemS; rw [HI.out]; dsimp only; rw [hr]
    clear hr HI
    obtain ⟨w0, hw⟩ : ∃ w0, w0 = w.alloc (.cells (#[Value.int .i64 lo, .int .i64 hi]) 60) := ⟨_, rfl⟩
    have hC0 : ∀ o, w0.cell? ⟨w.heap.size, o, none⟩ = (#[Value.int .i64 lo, .int .i64 hi])[o]? := fun o => by rw [hw]; simp
    have hz0 : w.heap.size < w0.heap.size := by rw [hw]; simp
    have hw0 : Below w.heap.size w w0 := by rw [hw]; exact (Below.refl _ _).alloc (Nat.le_refl _) _
    go_enter Tryd.func50, Tryd.ntmps50
    go_wp2_with (first
      | (go_at_call 66; rw [← hw]; (with_reducible refine (cC _).mono ?_); rintro e w1 ⟨rfl, q, h9⟩; have hb1 : Below w0.heap.size w0 w1 := (by rw [h9]; exact below_drewN (Below.refl _ _) q); clear h9; have hC1 := cells_on hC0 hb1 hz0; have hz1 : w.heap.size < w1.heap.size := Nat.lt_of_lt_of_le hz0 hb1.size; have hw1 : Below w.heap.size w w1 := hw0.trans (hb1.mono hw0.size))
      | (go_at_call 67; (with_reducible refine (cR _).mono ?_); rintro e w2 ⟨a, b, z, rfl, hb2⟩; have hC2 := cells_on hC1 hb2 hz1; have hz2 : w.heap.size < w2.heap.size := Nat.lt_of_lt_of_le hz1 hb2.size; have hw2 : Below w.heap.size w w2 := hw1.trans (hb2.mono hw1.size)))
    go_ret2
    exact ⟨item_none HN.out, hw2.alloc hw2.size _⟩
  · cases z
    · obtain ⟨r1, r2, r3⟩ := rowS_bd h1 hr
      obtain ⟨st, o, hv, g1, g2⟩ := pn_form 1 99 y
      have cP := fun w => pn_any y 1 99 w (by omega)
      rw [hv] at cP
      cases o
      · have HN : Hid (itemS lo hi (x ++ 47 :: y) = none) := by
          unfold Hid itemS; rw [HI.out]; dsimp only; rw [hr]
          cases e : num2 y with
          | none => rfl
          | some m =>
            have := g2 rfl m e
            have := num2_bd e
            dsimp only
            rw [if_neg (by omega)]
        clear hr HI g1 g2 hv
        obtain ⟨w0, hw⟩ : ∃ w0, w0 = w.alloc (.cells (#[Value.int .i64 lo, .int .i64 hi]) 60) := ⟨_, rfl⟩
        have hC0 : ∀ o, w0.cell? ⟨w.heap.size, o, none⟩ = (#[Value.int .i64 lo, .int .i64 hi])[o]? := fun o => by rw [hw]; simp
        have hz0 : w.heap.size < w0.heap.size := by rw [hw]; simp
        have hw0 : Below w.heap.size w w0 := by rw [hw]; exact (Below.refl _ _).alloc (Nat.le_refl _) _
        go_enter Tryd.func50, Tryd.ntmps50
        go_wp2_with (first
          | (go_at_call 66; rw [← hw]; (with_reducible refine (cC _).mono ?_); rintro e w1 ⟨rfl, q, h9⟩; have hb1 : Below w0.heap.size w0 w1 := (by rw [h9]; exact below_drewN (Below.refl _ _) q); clear h9; have hC1 := cells_on hC0 hb1 hz0; have hz1 : w.heap.size < w1.heap.size := Nat.lt_of_lt_of_le hz0 hb1.size; have hw1 : Below w.heap.size w w1 := hw0.trans (hb1.mono hw0.size))
          | (go_at_call 67; (with_reducible refine (cR _).mono ?_); rintro e w2 ⟨rfl, hb2⟩; have hC2 := cells_on hC1 hb2 hz1; have hz2 : w.heap.size < w2.heap.size := Nat.lt_of_lt_of_le hz1 hb2.size; have hw2 : Below w.heap.size w w2 := hw1.trans (hb2.mono hw1.size))
          | (go_at_call 68; (with_reducible refine (cP _).mono ?_); rintro e w3 ⟨rfl, hb3⟩))
        go_ret2
        exact ⟨item_none HN.out, (hw2.alloc hw2.size _).trans (hb3.mono (by simp; exact Nat.le_trans hw2.size (Nat.le_succ _)))⟩
      · obtain ⟨e1, e2⟩ := g1 rfl
        have HN : Hid (itemS lo hi (x ++ 47 :: y) = some (a, b, st)) := by
          unfold Hid itemS; rw [HI.out]; dsimp only; rw [hr, e1]
          dsimp only
          rw [if_pos e2.1]
        have cE := fun w => each_any a b st w (by omega) r2 (by omega) e2.1 e2.2
        clear hr HI g1 g2 hv e1
        obtain ⟨w0, hw⟩ : ∃ w0, w0 = w.alloc (.cells (#[Value.int .i64 lo, .int .i64 hi]) 60) := ⟨_, rfl⟩
        have hC0 : ∀ o, w0.cell? ⟨w.heap.size, o, none⟩ = (#[Value.int .i64 lo, .int .i64 hi])[o]? := fun o => by rw [hw]; simp
        have hz0 : w.heap.size < w0.heap.size := by rw [hw]; simp
        have hw0 : Below w.heap.size w w0 := by rw [hw]; exact (Below.refl _ _).alloc (Nat.le_refl _) _
        go_enter Tryd.func50, Tryd.ntmps50
        go_wp2_with (first
          | (go_at_call 66; rw [← hw]; (with_reducible refine (cC _).mono ?_); rintro e w1 ⟨rfl, q, h9⟩; have hb1 : Below w0.heap.size w0 w1 := (by rw [h9]; exact below_drewN (Below.refl _ _) q); clear h9; have hC1 := cells_on hC0 hb1 hz0; have hz1 : w.heap.size < w1.heap.size := Nat.lt_of_lt_of_le hz0 hb1.size; have hw1 : Below w.heap.size w w1 := hw0.trans (hb1.mono hw0.size))
          | (go_at_call 67; (with_reducible refine (cR _).mono ?_); rintro e w2 ⟨rfl, hb2⟩; have hC2 := cells_on hC1 hb2 hz1; have hz2 : w.heap.size < w2.heap.size := Nat.lt_of_lt_of_le hz1 hb2.size; have hw2 : Below w.heap.size w w2 := hw1.trans (hb2.mono hw1.size))
          | (go_at_call 68; (with_reducible refine (cP _).mono ?_); rintro e w3 ⟨rfl, hb3⟩; have k0 : w3.cell? ⟨w2.heap.size, 0, none⟩ = some (.int .i64 a) := (by rw [hb3.cell (p := ⟨w2.heap.size, 0, none⟩) (by simp)]; simp); have k1 : w3.cell? ⟨w2.heap.size, 1, none⟩ = some (.int .i64 b) := (by rw [hb3.cell (p := ⟨w2.heap.size, 1, none⟩) (by simp)]; simp); have hw3 : Below w.heap.size w w3 := (hw2.alloc hw2.size _).trans (hb3.mono (by simp; exact Nat.le_trans hw2.size (Nat.le_succ _))))
          | (go_at_call 69; (with_reducible refine (cE _).mono ?_); rintro e w4 ⟨v, rfl, hv4, hb4⟩))
        go_ret2
        exact ⟨item_some HN.out hv4, hw3.trans (hb4.mono hw3.size)⟩
    · have HN : Hid (itemS lo hi (x ++ 47 :: y) = none) := by
        unfold Hid itemS; rw [HI.out]; dsimp only; rw [hr]
      clear hr HI
      obtain ⟨w0, hw⟩ : ∃ w0, w0 = w.alloc (.cells (#[Value.int .i64 lo, .int .i64 hi]) 60) := ⟨_, rfl⟩
      have hC0 : ∀ o, w0.cell? ⟨w.heap.size, o, none⟩ = (#[Value.int .i64 lo, .int .i64 hi])[o]? := fun o => by rw [hw]; simp
      have hz0 : w.heap.size < w0.heap.size := by rw [hw]; simp
      have hw0 : Below w.heap.size w w0 := by rw [hw]; exact (Below.refl _ _).alloc (Nat.le_refl _) _
      go_enter Tryd.func50, Tryd.ntmps50
      go_wp2_with (first
        | (go_at_call 66; rw [← hw]; (with_reducible refine (cC _).mono ?_); rintro e w1 ⟨rfl, q, h9⟩; have hb1 : Below w0.heap.size w0 w1 := (by rw [h9]; exact below_drewN (Below.refl _ _) q); clear h9; have hC1 := cells_on hC0 hb1 hz0; have hz1 : w.heap.size < w1.heap.size := Nat.lt_of_lt_of_le hz0 hb1.size; have hw1 : Below w.heap.size w w1 := hw0.trans (hb1.mono hw0.size))
        | (go_at_call 67; (with_reducible refine (cR _).mono ?_); rintro e w2 ⟨rfl, hb2⟩; have hC2 := cells_on hC1 hb2 hz1; have hz2 : w.heap.size < w2.heap.size := Nat.lt_of_lt_of_le hz1 hb2.size; have hw2 : Below w.heap.size w w2 := hw1.trans (hb2.mono hw1.size)))
      go_ret2
      exact ⟨item_none HN.out, hw2.alloc hw2.size _⟩
theorem item_any (t : List UInt8) (lo hi : Int) (w : World) (hl : t.length ≤ 4294967281) (h0 : 0 ≤ lo) (h1 : lo ≤ hi) (h2 : hi ≤ 63) :
    Calls Tryd.prog 50 #[strV t, bdV lo hi] w fun e w' => ItemAns lo hi t e ∧ Below w.heap.size w w' := by
  rcases cut_cases 47 t with h | ⟨x, y, rfl, h⟩
  · exact item_plain t lo hi w h hl h0 h1 h2
  · exact item_step x y lo hi w h hl h0 h1 h2
end Pie
end Go.Proofs.YtbfnjjdgiihngaaDoor
