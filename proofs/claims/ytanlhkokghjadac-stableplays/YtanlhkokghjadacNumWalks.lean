
/- What each function of package num answers, at every number: contracts, the leaves first. -/
import Derived.Test.YtanlhkokghjadacRows
import Derived.WalkKit
import Derived.ProofKit
import Derived.Test.YtanlhkokghjadacNumPlain
namespace Go.Proofs.Ytanlhkokghjadac
namespace Num
open Plain Go.RowKit

theorem ret_int {k : IntKind} {a b : Int} (h : a = b) : Ending.returned (.int k a) = .returned (.int k b) := by rw [h]

theorem ret_two {k l : IntKind} {a b c d : Int} (h : a = b) (g : c = d) : Ending.returned (.tuple #[.int k a, .int l c]) = .returned (.tuple #[.int k b, .int l d]) := by rw [h, g]

theorem clip_any (n : Int) (w : World) :
    Calls Try.prog 31 #[.int .i64 n] w fun e w' => e = .returned (.int .i64 (clip n)) ∧ w' = w := by
  by_cases h1 : 1000000000000000 < n
  · go_enter Try.func31, Try.ntmps31
    go_wp2
    go_ret
    exact ⟨ret_int (clip_hi h1).symm, rfl⟩
  · by_cases h2 : n < -1000000000000000
    · go_enter Try.func31, Try.ntmps31
      go_wp2
      go_ret
      exact ⟨ret_int (clip_lo h2).symm, rfl⟩
    · go_enter Try.func31, Try.ntmps31
      go_wp2
      go_ret
      exact ⟨ret_int (clip_in (by omega) (by omega)).symm, rfl⟩

theorem sz_any (n : Int) (w : World) (h : -1000000000000000 ≤ n ∧ n ≤ 1000000000000000) :
    Calls Try.prog 32 #[.int .i64 n] w fun e w' => e = .returned (.int .i64 (sz n)) ∧ w' = w := by
  by_cases h1 : n < 0
  · go_enter Try.func32, Try.ntmps32
    go_wp2
    go_ret
    exact ⟨ret_int (sz_neg h1).symm, rfl⟩
  · go_enter Try.func32, Try.ntmps32
    go_wp2
    go_ret
    exact ⟨ret_int (sz_pos (by omega)).symm, rfl⟩

theorem atz_any (n : Int) (w : World) :
    Calls Try.prog 33 #[.int .i64 n] w fun e w' => e = .returned (.int .i64 (atz n)) ∧ w' = w := by
  by_cases h1 : n < 0
  · go_enter Try.func33, Try.ntmps33
    go_wp2
    go_ret
    exact ⟨ret_int (atz_neg h1).symm, rfl⟩
  · go_enter Try.func33, Try.ntmps33
    go_wp2
    go_ret
    exact ⟨ret_int (atz_pos (by omega)).symm, rfl⟩

theorem add_any (a b : Int) (w : World) :
    Calls Try.prog 34 #[.int .i64 a, .int .i64 b] w fun e w' => e = .returned (.int .i64 (clip (clip a + clip b))) ∧ w' = w := by
  have ha := clip_bd a
  have hb := clip_bd b
  go_enter Try.func34, Try.ntmps34
  go_wp2_with (go_at_call 31; refine (clip_any _ _).mono ?_; rintro e w' ⟨rfl, rfl⟩)
  go_ret
  exact ⟨rfl, rfl⟩

theorem mul_any (a b : Int) (w : World) :
    Calls Try.prog 26 #[.int .i64 a, .int .i64 b] w fun e w' => e = .returned (.int .i64 (mulc (clip a) (clip b))) ∧ w' = w := by
  have ha := clip_bd a
  have hb := clip_bd b
  by_cases h0 : clip a = 0
  · have hz : (clip a == 0) = true := by simp [h0]
    have HM : Hid (mulc (clip a) (clip b) = clip a * clip b) := mulc_zero _ _ h0
    have hp : clip a * clip b = 0 := by rw [h0, Int.zero_mul]
    have hp1 : 0 ≤ clip a * clip b := by omega
    have hp2 : clip a * clip b ≤ 0 := by omega
    clear hp h0
    go_enter Try.func26, Try.ntmps26
    go_wp2_with (go_at_call 31; refine (clip_any _ _).mono ?_; rintro e w' ⟨rfl, rfl⟩)
    go_ret
    exact ⟨ret_int HM.out.symm, rfl⟩
  · have hz : (clip a == 0) = false := by simp [h0]
    have h1 := sz_one _ h0
    have h2 := sz_bd _ ha
    have h3 := sz_bd _ hb
    by_cases hf : sz (clip b) ≤ 1000000000000000 / sz (clip a)
    · have HM : Hid (mulc (clip a) (clip b) = clip a * clip b) := mulc_fits _ _ h0 hf
      have hp := mul_fits _ _ h0 hf
      clear h0
      go_enter Try.func26, Try.ntmps26
      go_wp2_with (first | (go_at_call 31; refine (clip_any _ _).mono ?_; rintro e w' ⟨rfl, rfl⟩) | (go_at_call 32; refine (sz_any _ _ (by assumption)).mono ?_; rintro e w' ⟨rfl, rfl⟩))
      go_ret
      exact ⟨ret_int HM.out.symm, rfl⟩
    · have HM : Hid (mulc (clip a) (clip b) = _) := mulc_great _ _ h0 (by omega)
      clear h0
      have D1 : decide (clip a < 0) = true ∨ decide (clip a < 0) = false := by cases decide (clip a < 0) <;> simp
      have D2 : decide (clip b < 0) = true ∨ decide (clip b < 0) = false := by cases decide (clip b < 0) <;> simp
      rcases D1 with d1 | d1 <;> rcases D2 with d2 | d2
      all_goals
        rw [d1, d2] at HM
        go_enter Try.func26, Try.ntmps26
        go_wp2_with (first | (go_at_call 31; refine (clip_any _ _).mono ?_; rintro e w' ⟨rfl, rfl⟩) | (go_at_call 32; refine (sz_any _ _ (by assumption)).mono ?_; rintro e w' ⟨rfl, rfl⟩))
        go_ret
        exact ⟨ret_int (by rw [HM.out]; rfl), rfl⟩

theorem ceil_no (a b : Int) (w : World) (h : b < 1) :
    Calls Try.prog 25 #[.int .i64 a, .int .i64 b] w fun e w' => e = .returned (.tuple #[.int .i64 0, .int .i64 1]) ∧ w' = w := by
  go_enter Try.func25, Try.ntmps25
  go_wp2
  go_ret2
  exact ⟨rfl, rfl⟩

theorem clip_one {b : Int} (h : 1 ≤ b) : 1 ≤ clip b := by unfold clip; repeat (first | omega | split)

theorem ceil_yes (a b : Int) (w : World) (h : 1 ≤ b) :
    Calls Try.prog 25 #[.int .i64 a, .int .i64 b] w fun e w' => e = .returned (.tuple #[.int .i64 (up (clip a) (clip b)), .int .i64 0]) ∧ w' = w := by
  have ha := clip_bd a
  have hb := clip_bd b
  have h1 := clip_one h
  have hq := tdiv_bd _ _ h1 ha
  have hnz : ¬ clip b = 0 := by omega
  by_cases hr : 0 < (clip a).tmod (clip b)
  · have HU : Hid (up (clip a) (clip b) = (clip a).tdiv (clip b) + 1) := by unfold Hid up; rw [if_pos hr]
    go_enter Try.func25, Try.ntmps25
    go_wp2_with (go_at_call 31; refine (clip_any _ _).mono ?_; rintro e w' ⟨rfl, rfl⟩)
    go_ret2
    exact ⟨ret_two HU.out.symm rfl, rfl⟩
  · have HU : Hid (up (clip a) (clip b) = (clip a).tdiv (clip b)) := by unfold Hid up; rw [if_neg hr]
    go_enter Try.func25, Try.ntmps25
    go_wp2_with (go_at_call 31; refine (clip_any _ _).mono ?_; rintro e w' ⟨rfl, rfl⟩)
    go_ret2
    exact ⟨ret_two HU.out.symm rfl, rfl⟩

theorem share_any (a b : Int) (w : World) :
    Calls Try.prog 28 #[.int .i64 a, .int .i64 b] w fun e w' => e = .returned (.int .i64 (share (atz (clip a)) (atz (clip b)))) ∧ w' = w := by
  have ha := atz_bd _ (clip_bd a)
  have hb := atz_bd _ (clip_bd b)
  have hr := rest_bd (atz (clip a)) (atz (clip b)) hb
  have HS : Hid _ := share_ok _ _ ha hb
  go_enter Try.func28, Try.ntmps28
  go_wp2_with (first | (go_at_call 31; refine (clip_any _ _).mono ?_; rintro e w' ⟨rfl, rfl⟩) | (go_at_call 33; refine (atz_any _ _).mono ?_; rintro e w' ⟨rfl, rfl⟩) | (go_at_call 26; refine (mul_any _ _ _).mono ?_; rintro e w' ⟨rfl, rfl⟩) | (go_at_call 34; refine (add_any _ _ _).mono ?_; rintro e w' ⟨rfl, rfl⟩))
  go_ret
  exact ⟨ret_int HS.out, rfl⟩

end Num
end Go.Proofs.Ytanlhkokghjadac
