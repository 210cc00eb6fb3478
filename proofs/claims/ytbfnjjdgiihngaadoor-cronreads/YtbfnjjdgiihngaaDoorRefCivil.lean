/- What the document's answer (tideref) says of dates: In, Leap, Long, years, Days, Date: contracts, the leaves first. -/
import Derived.Test.YtbfnjjdgiihngaaDoorCivilOf
import Derived.Test.YtbfnjjdgiihngaaDoorRestWalk
namespace Go.Proofs.YtbfnjjdgiihngaaDoor
namespace RCiv
open Cal Civ Rst Go.RowKit

def inB (n lo hi : Int) : Bool := decide (lo ≤ n ∧ n ≤ hi)
theorem in_any (n lo hi : Int) (w : World) :
    Calls Tryd.prog 19 #[.int .i64 n, .int .i64 lo, .int .i64 hi] w fun e w' => e = .returned (.bool (inB n lo hi)) ∧ w' = w := by
  by_cases h1 : lo ≤ n
  · have d : decide (lo ≤ n) = true := by simp [h1]
    have HT : Hid (inB n lo hi = decide (n ≤ hi)) := by unfold Hid inB; rw [decide_eq_decide]; omega
    go_enter Tryd.func19, Tryd.ntmps19
    go_wp2
    go_ret
    exact ⟨ret_bool HT.out.symm, rfl⟩
  · have d : decide (lo ≤ n) = false := by simp; omega
    have HT : Hid (inB n lo hi = false) := by unfold Hid inB; simp; omega
    go_enter Tryd.func19, Tryd.ntmps19
    go_wp2
    go_ret
    exact ⟨ret_bool HT.out.symm, rfl⟩

theorem rleap_any (y : Int) (w : World) :
    Calls Tryd.prog 70 #[.int .i64 y] w fun e w' => e = .returned (.bool (lpB y)) ∧ w' = w := by
  have t4 := tz y 4
  have t1 : (y.tmod 100 != 0) = !decide (y % 100 = 0) := by rw [bne, tz]
  have t0 := tz y 400
  by_cases h0 : y % 400 = 0
  · have HL : Hid (lpB y = true) := by unfold Hid lpB; simp; omega
    simp only [h0, decide_true] at t0
    clear h0 t4 t1
    go_enter Tryd.func70, Tryd.ntmps70
    go_wp2
    go_ret
    exact ⟨ret_bool HL.out.symm, rfl⟩
  · simp only [h0, decide_false] at t0
    by_cases h4 : y % 4 = 0
    · have HL : Hid (lpB y = (y.tmod 100 != 0)) := by
        unfold Hid; rw [t1]; unfold lpB
        by_cases h1 : y % 100 = 0 <;> simp [h4, h1, h0]
      simp only [h4, decide_true] at t4
      clear h0 h4 t1
      go_enter Tryd.func70, Tryd.ntmps70
      go_wp2
      go_ret
      exact ⟨ret_bool HL.out.symm, rfl⟩
    · have HL : Hid (lpB y = false) := by unfold Hid lpB; simp; omega
      simp only [h4, decide_false] at t4
      clear h0 h4 t1
      go_enter Tryd.func70, Tryd.ntmps70
      go_wp2
      go_ret
      exact ⟨ret_bool HL.out.symm, rfl⟩

theorem long_any (y m : Int) (w : World) :
    Calls Tryd.prog 53 #[.int .i64 y, .int .i64 m] w fun e w' => e = .returned (.int .i64 (dim y m)) ∧ w' = w := by
  have hl := lpB_lp y
  by_cases h2 : m = 2
  · subst h2
    have hd : dim y 2 = 28 + lp y := by simp [dim]
    cases hb : lpB y
    all_goals
      have HD : Hid (dim y 2 = 28 + lp y) := hd
      have HL : Hid _ := hl
      rw [hb] at HL
      clear hd hl
      go_enter Tryd.func53, Tryd.ntmps53
      go_wp2_with (go_at_call 70; refine (rleap_any _ _).mono ?_; rintro e w' ⟨rfl, rfl⟩)
      go_ret
      exact ⟨Civ.ret_int (by rw [HD.out, HL.out]; rfl), rfl⟩
  · clear hl
    by_cases h30 : m = 4 ∨ m = 6 ∨ m = 9 ∨ m = 11
    · rcases h30 with rfl | rfl | rfl | rfl
      all_goals
        go_enter Tryd.func53, Tryd.ntmps53
        go_wp2
        go_ret
        exact ⟨Civ.ret_int (by simp [dim]), rfl⟩
    · have HD : Hid (dim y m = 31) := by unfold Hid dim; rw [if_neg h2, if_neg h30]
      have d2 : (m == 2) = false := by simp [h2]
      have d4 : (m == 4) = false := by simp; omega
      have d6 : (m == 6) = false := by simp; omega
      have d9 : (m == 9) = false := by simp; omega
      have d11 : (m == 11) = false := by simp; omega
      clear h2 h30
      go_enter Tryd.func53, Tryd.ntmps53
      go_wp2
      go_ret
      exact ⟨Civ.ret_int HD.out.symm, rfl⟩

theorem tdiv_neg (y s : Int) (h : y ≤ 0) : y.tdiv s = -((-y) / s) := by
  have e := Int.neg_tdiv (a := -y) (b := s)
  rw [Int.neg_neg] at e
  rw [e, Int.tdiv_eq_ediv_of_nonneg (by omega)]

set_option maxHeartbeats 1000000 in
theorem years_any (y : Int) (w : World) (h1 : -4000 ≤ y) (h2 : y ≤ 9000) :
    Calls Tryd.prog 52 #[.int .i64 y] w fun e w' => e = .returned (.int .i64 (ys y - 1460970)) ∧ Below w.heap.size w w' := by
  go_enter Tryd.func52, Tryd.ntmps52
  go_wp2
  go_loop [3, 13] (fun n i => (i = .int .i64 0 ∧ n = .int .i64 (365 * y)) ∨ (i = .int .i64 1 ∧ n = .int .i64 (365 * y + (y + 3) / 4)) ∨
    (i = .int .i64 2 ∧ n = .int .i64 (365 * y + (y + 3) / 4 - (y + 99) / 100)) ∨ (i = .int .i64 3 ∧ n = .int .i64 (365 * y + (y + 3) / 4 - (y + 99) / 100 + (y + 399) / 400))) (fun _ i => (3 - intOf i).toNat)
  case atStart => exact Or.inl ⟨rfl, rfl⟩
  case round =>
    rcases hrel with ⟨rfl, rfl⟩ | ⟨rfl, rfl⟩ | ⟨rfl, rfl⟩ | ⟨rfl, rfl⟩
    · by_cases hy : 0 < y
      · go_wp2
        go_round
        case rel => exact Or.inr (Or.inl ⟨rfl, by congr 1; omega⟩)
        case measure => simp [intOf]
      · have HE : Hid (y.tdiv 4 = (y + 3) / 4) := by unfold Hid; rw [tdiv_neg y 4 (by omega)]; omega
        obtain ⟨q, hq⟩ : ∃ q, y.tdiv 4 = q := ⟨_, rfl⟩
        have HQ : Hid (q = (y + 3) / 4) := by unfold Hid; rw [← hq]; exact HE.out
        have q1 : -4000 ≤ q := by have := HQ.out; omega
        have q2 : q ≤ 0 := by have := HQ.out; omega
        clear HE
        go_wp2
        go_round
        case rel => exact Or.inr (Or.inl ⟨rfl, by congr 1; have := HQ.out; omega⟩)
        case measure => simp [intOf]
    · by_cases hy : 0 < y
      · go_wp2
        go_round
        case rel => exact Or.inr (Or.inr (Or.inl ⟨rfl, by congr 1; omega⟩))
        case measure => simp [intOf]
      · have HE : Hid (y.tdiv 100 = (y + 99) / 100) := by unfold Hid; rw [tdiv_neg y 100 (by omega)]; omega
        obtain ⟨q, hq⟩ : ∃ q, y.tdiv 100 = q := ⟨_, rfl⟩
        have HQ : Hid (q = (y + 99) / 100) := by unfold Hid; rw [← hq]; exact HE.out
        have q1 : -4000 ≤ q := by have := HQ.out; omega
        have q2 : q ≤ 0 := by have := HQ.out; omega
        clear HE
        go_wp2
        go_round
        case rel => exact Or.inr (Or.inr (Or.inl ⟨rfl, by congr 1; have := HQ.out; omega⟩))
        case measure => simp [intOf]
    · by_cases hy : 0 < y
      · go_wp2
        go_round
        case rel => exact Or.inr (Or.inr (Or.inr ⟨rfl, by congr 1; omega⟩))
        case measure => simp [intOf]
      · have HE : Hid (y.tdiv 400 = (y + 399) / 400) := by unfold Hid; rw [tdiv_neg y 400 (by omega)]; omega
        obtain ⟨q, hq⟩ : ∃ q, y.tdiv 400 = q := ⟨_, rfl⟩
        have HQ : Hid (q = (y + 399) / 400) := by unfold Hid; rw [← hq]; exact HE.out
        have q1 : -4000 ≤ q := by have := HQ.out; omega
        have q2 : q ≤ 0 := by have := HQ.out; omega
        clear HE
        go_wp2
        go_round
        case rel => exact Or.inr (Or.inr (Or.inr ⟨rfl, by congr 1; have := HQ.out; omega⟩))
        case measure => simp [intOf]
    · go_wp2
      go_ret
      exact ⟨Civ.ret_int (by unfold ys; omega), (Below.refl _ _).alloc (Nat.le_refl _) _⟩
end RCiv
end Go.Proofs.YtbfnjjdgiihngaaDoor
