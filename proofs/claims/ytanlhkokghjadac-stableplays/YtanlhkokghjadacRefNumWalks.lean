
/- What the document's own functions on numbers (package tideref) answer: contracts. -/
import Derived.Test.YtanlhkokghjadacRows
import Derived.WalkKit
import Derived.ProofKit
import Derived.Test.YtanlhkokghjadacNumWalks
import Derived.Test.YtanlhkokghjadacRefPlain
namespace Go.Proofs.Ytanlhkokghjadac
namespace Num
open Plain Go.RowKit

theorem rclip_any (n : Int) (w : World) :
    Calls Try.prog 29 #[.int .i64 n] w fun e w' => e = .returned (.int .i64 (clip n)) ∧ w' = w := by
  by_cases h1 : 1000000000000000 < n
  · go_enter Try.func29, Try.ntmps29
    go_wp2
    go_ret
    exact ⟨ret_int (clip_hi h1).symm, rfl⟩
  · by_cases h2 : n < -1000000000000000
    · go_enter Try.func29, Try.ntmps29
      go_wp2
      go_ret
      exact ⟨ret_int (clip_lo h2).symm, rfl⟩
    · go_enter Try.func29, Try.ntmps29
      go_wp2
      go_ret
      exact ⟨ret_int (clip_in (by omega) (by omega)).symm, rfl⟩

theorem rceil_any (a b : Int) (w : World) (h : 1 ≤ b) :
    Calls Try.prog 17 #[.int .i64 a, .int .i64 b] w fun e w' => e = .returned (.int .i64 (up (clip a) (clip b))) ∧ w' = w := by
  have ha := clip_bd a
  have hb := clip_bd b
  have h1 := clip_one h
  have hq := tdiv_bd _ _ h1 ha
  have hnz : ¬ clip b = 0 := by omega
  obtain ⟨t1, t2⟩ := tquot (clip a) (clip b) h1
  have hlo : (clip a).tdiv (clip b) * clip b ≤ 2000000000000000 ∧ -2000000000000000 ≤ (clip a).tdiv (clip b) * clip b := by
    rcases Int.lt_or_le (clip a) 0 with g | g
    · have := t2 g; omega
    · have := t1 g; omega
  have T : Hid ((clip a).tmod (clip b) = clip a - (clip a).tdiv (clip b) * clip b) := by
    rcases Int.lt_or_le (clip a) 0 with g | g
    · exact (t2 g).2.2
    · exact (t1 g).2.2
  have T2 : Hid (clip a < (clip a).tdiv (clip b) * clip b + clip b) := by
    rcases Int.lt_or_le (clip a) 0 with g | g
    · show _ < _; have := t2 g; omega
    · exact (t1 g).2.1
  clear t1 t2
  go_enter Try.func17, Try.ntmps17
  go_wp2_with (go_at_call 29; refine (rclip_any _ _).mono ?_; rintro e w' ⟨rfl, rfl⟩)
  go_loop [5] (fun i => ∃ n : Int, (n = (clip a).tdiv (clip b) ∨ (n = (clip a).tdiv (clip b) + 1 ∧ 0 < (clip a).tmod (clip b))) ∧ i = .int .i64 n) (fun i => ((clip a).tdiv (clip b) + 1 - intOf i).toNat)
  case atStart => exact ⟨_, Or.inl rfl, rfl⟩
  case round =>
    obtain ⟨n, hn, rfl⟩ := hrel
    rcases hn with rfl | ⟨rfl, hr⟩
    · by_cases hr : 0 < (clip a).tmod (clip b)
      · have hlt : (clip a).tdiv (clip b) * clip b < clip a := by have := T.out; omega
        go_wp2
        go_round
        case rel => exact ⟨_, Or.inr ⟨rfl, hr⟩, rfl⟩
        case measure => simp [intOf]; omega
      · have hge : ¬ (clip a).tdiv (clip b) * clip b < clip a := by have := T.out; omega
        have HU : Hid (up (clip a) (clip b) = (clip a).tdiv (clip b)) := by unfold Hid up; rw [if_neg hr]
        go_wp2
        go_ret
        exact ⟨ret_int HU.out.symm, rfl⟩
    · have e : ((clip a).tdiv (clip b) + 1) * clip b = (clip a).tdiv (clip b) * clip b + clip b := by rw [Int.add_mul, Int.one_mul]
      have hge : ¬ ((clip a).tdiv (clip b) + 1) * clip b < clip a := by have := T2.out; omega
      have hbd : ((clip a).tdiv (clip b) + 1) * clip b ≤ 3000000000000000 := by omega
      have HU : Hid (up (clip a) (clip b) = (clip a).tdiv (clip b) + 1) := by unfold Hid up; rw [if_pos hr]
      clear e
      go_wp2
      go_ret
      exact ⟨ret_int HU.out.symm, rfl⟩

/-- the loop over the digits, of sizes -/
theorem rmul_neg_neg (a b : Int) (w : World) (s1 : clip a < 0) (s2 : clip b < 0) :
    Calls Try.prog 30 #[.int .i64 a, .int .i64 b] w fun e w' => e = .returned (.int .i64 (mulc (clip a) (clip b))) ∧ w' = w := by
  have ha := clip_bd a
  have hb := clip_bd b
  have d1 : decide (clip a < 0) = true := by simp; omega
  have d2 : decide (clip b < 0) = true := by simp; omega
  have E1 : Hid (sz (clip a) = -clip a) := sz_neg s1
  have E2 : Hid (sz (clip b) = -clip b) := sz_neg s2
  have b1 : 0 ≤ sz (clip a) := (sz_bd _ ha).1
  have b2 := sz_bd _ hb
  have HM : Hid _ := mulc_plus (clip a) (clip b) (by rw [d1, d2]; rfl)
  go_enter Try.func30, Try.ntmps30
  go_wp2_with (go_at_call 29; refine (rclip_any _ _).mono ?_; rintro e w' ⟨rfl, rfl⟩)
  generalize hB : -clip b = B at E2 ⊢
  have B0 : 0 ≤ B := by omega
  have B1 : B ≤ 1000000000000000 := by omega
  clear hB
  generalize hA : -clip a = A at E1 ⊢
  have A0 : 0 ≤ A := by omega
  have A1 : A ≤ 1000000000000000 := by omega
  clear hA
  go_loop [6, 7] (fun n p => ∃ P : Int, (P = 0 ∨ (Hid (Ten P) ∧ 1 ≤ P ∧ P ≤ 1000000000000000)) ∧ p = .int .i64 P ∧ n = .int .i64 (sofar (sz (clip a)) (sz (clip b)) P)) (fun _ p => (intOf p).toNat)
  case atStart => exact ⟨1000000000000000, Or.inr ⟨ten_first, by omega, by omega⟩, rfl, by rw [sofar_first _ _ b2]⟩
  case round =>
    obtain ⟨P, hP, rfl, rfl⟩ := hrel
    rcases hP with rfl | ⟨ht, hp, hle⟩
    · have ab := sofar_bd (sz (clip a)) (sz (clip b)) 0 b1 b2.1 (by omega)
      go_wp2
      go_ret
      exact ⟨ret_int (by rw [HM.out]; unfold sofar; rw [if_pos rfl]), rfl⟩
    · have ab := sofar_bd (sz (clip a)) (sz (clip b)) P b1 b2.1 (by omega)
      have q0 : 0 ≤ B / P := Int.ediv_nonneg (by omega) (by omega)
      have q1 : B / P ≤ B := Int.ediv_le_self P (by omega)
      have Z : Hid _ := pway_zero (sz (clip a)) (sz (clip b)) P b1 b2.1 hp
      rw [← sofar_at _ _ _ hp] at Z
      go_wp2_with (go_at_call 29; refine (rclip_any _ _).mono ?_; rintro e w' ⟨rfl, rfl⟩)
      go_loop [6, 8] (fun n k => ∃ i : Int, 0 ≤ i ∧ i ≤ B / P % 10 ∧ k = .int .i64 i ∧ n = .int .i64 (pway (sz (clip a)) (sz (clip b)) P i)) (fun _ k => (10 - intOf k).toNat)
      case atStart => exact ⟨0, by omega, by omega, rfl, by rw [Z.out]⟩
      case round =>
        obtain ⟨i, hi, hj, rfl, rfl⟩ := hrel
        have pb := pway_bd (sz (clip a)) (sz (clip b)) P i b1 b2.1 hp hi
        have S : Hid _ := pway_step (sz (clip a)) (sz (clip b)) P i b1 b2.1 hp hi
        by_cases hlt : i < B / P % 10
        · go_wp2_with (go_at_call 29; refine (rclip_any _ _).mono ?_; rintro e w' ⟨rfl, rfl⟩)
          go_round
          case rel => exact ⟨i + 1, by omega, by omega, rfl, by rw [S.out, E1.out]⟩
          case measure => simp [intOf]; omega
        · go_wp2
          go_round
          case rel =>
            refine ⟨P / 10, ?_, rfl, ?_⟩
            · rcases ten_next ht.out with h | ⟨h, h'⟩
              · left; omega
              · right; exact ⟨h, ten_pos h, by omega⟩
            · rw [← sofar_next _ _ _ ht.out, ← pway_last _ _ _ hp]
              have e : i = sz (clip b) / P % 10 := by rw [E2.out]; omega
              rw [e]
          case measure => simp [intOf]; omega

theorem rmul_neg_pos (a b : Int) (w : World) (s1 : clip a < 0) (s2 : 0 ≤ clip b) :
    Calls Try.prog 30 #[.int .i64 a, .int .i64 b] w fun e w' => e = .returned (.int .i64 (mulc (clip a) (clip b))) ∧ w' = w := by
  have ha := clip_bd a
  have hb := clip_bd b
  have d1 : decide (clip a < 0) = true := by simp; omega
  have d2 : decide (clip b < 0) = false := by simp; omega
  have E1 : Hid (sz (clip a) = -clip a) := sz_neg s1
  have E2 : Hid (sz (clip b) = clip b) := sz_pos s2
  have b1 : 0 ≤ sz (clip a) := (sz_bd _ ha).1
  have b2 := sz_bd _ hb
  have HM : Hid _ := mulc_minus (clip a) (clip b) (by rw [d1, d2]; rfl)
  go_enter Try.func30, Try.ntmps30
  go_wp2_with (go_at_call 29; refine (rclip_any _ _).mono ?_; rintro e w' ⟨rfl, rfl⟩)
  generalize hA : -clip a = A at E1 ⊢
  have A0 : 0 ≤ A := by omega
  have A1 : A ≤ 1000000000000000 := by omega
  clear hA
  go_loop [6, 7] (fun n p => ∃ P : Int, (P = 0 ∨ (Hid (Ten P) ∧ 1 ≤ P ∧ P ≤ 1000000000000000)) ∧ p = .int .i64 P ∧ n = .int .i64 (sofar (sz (clip a)) (sz (clip b)) P)) (fun _ p => (intOf p).toNat)
  case atStart => exact ⟨1000000000000000, Or.inr ⟨ten_first, by omega, by omega⟩, rfl, by rw [sofar_first _ _ b2]⟩
  case round =>
    obtain ⟨P, hP, rfl, rfl⟩ := hrel
    rcases hP with rfl | ⟨ht, hp, hle⟩
    · have ab := sofar_bd (sz (clip a)) (sz (clip b)) 0 b1 b2.1 (by omega)
      go_wp2
      go_ret
      exact ⟨ret_int (by rw [HM.out]; unfold sofar; rw [if_pos rfl]), rfl⟩
    · have ab := sofar_bd (sz (clip a)) (sz (clip b)) P b1 b2.1 (by omega)
      have q0 : 0 ≤ clip b / P := Int.ediv_nonneg (by omega) (by omega)
      have q1 : clip b / P ≤ clip b := Int.ediv_le_self P (by omega)
      have Z : Hid _ := pway_zero (sz (clip a)) (sz (clip b)) P b1 b2.1 hp
      rw [← sofar_at _ _ _ hp] at Z
      go_wp2_with (go_at_call 29; refine (rclip_any _ _).mono ?_; rintro e w' ⟨rfl, rfl⟩)
      go_loop [6, 8] (fun n k => ∃ i : Int, 0 ≤ i ∧ i ≤ clip b / P % 10 ∧ k = .int .i64 i ∧ n = .int .i64 (pway (sz (clip a)) (sz (clip b)) P i)) (fun _ k => (10 - intOf k).toNat)
      case atStart => exact ⟨0, by omega, by omega, rfl, by rw [Z.out]⟩
      case round =>
        obtain ⟨i, hi, hj, rfl, rfl⟩ := hrel
        have pb := pway_bd (sz (clip a)) (sz (clip b)) P i b1 b2.1 hp hi
        have S : Hid _ := pway_step (sz (clip a)) (sz (clip b)) P i b1 b2.1 hp hi
        by_cases hlt : i < clip b / P % 10
        · go_wp2_with (go_at_call 29; refine (rclip_any _ _).mono ?_; rintro e w' ⟨rfl, rfl⟩)
          go_round
          case rel => exact ⟨i + 1, by omega, by omega, rfl, by rw [S.out, E1.out]⟩
          case measure => simp [intOf]; omega
        · go_wp2
          go_round
          case rel =>
            refine ⟨P / 10, ?_, rfl, ?_⟩
            · rcases ten_next ht.out with h | ⟨h, h'⟩
              · left; omega
              · right; exact ⟨h, ten_pos h, by omega⟩
            · rw [← sofar_next _ _ _ ht.out, ← pway_last _ _ _ hp]
              have e : i = sz (clip b) / P % 10 := by rw [E2.out]; omega
              rw [e]
          case measure => simp [intOf]; omega

theorem rmul_pos_neg (a b : Int) (w : World) (s1 : 0 ≤ clip a) (s2 : clip b < 0) :
    Calls Try.prog 30 #[.int .i64 a, .int .i64 b] w fun e w' => e = .returned (.int .i64 (mulc (clip a) (clip b))) ∧ w' = w := by
  have ha := clip_bd a
  have hb := clip_bd b
  have d1 : decide (clip a < 0) = false := by simp; omega
  have d2 : decide (clip b < 0) = true := by simp; omega
  have E1 : Hid (sz (clip a) = clip a) := sz_pos s1
  have E2 : Hid (sz (clip b) = -clip b) := sz_neg s2
  have b1 : 0 ≤ sz (clip a) := (sz_bd _ ha).1
  have b2 := sz_bd _ hb
  have HM : Hid _ := mulc_minus (clip a) (clip b) (by rw [d1, d2]; rfl)
  go_enter Try.func30, Try.ntmps30
  go_wp2_with (go_at_call 29; refine (rclip_any _ _).mono ?_; rintro e w' ⟨rfl, rfl⟩)
  generalize hB : -clip b = B at E2 ⊢
  have B0 : 0 ≤ B := by omega
  have B1 : B ≤ 1000000000000000 := by omega
  clear hB
  go_loop [6, 7] (fun n p => ∃ P : Int, (P = 0 ∨ (Hid (Ten P) ∧ 1 ≤ P ∧ P ≤ 1000000000000000)) ∧ p = .int .i64 P ∧ n = .int .i64 (sofar (sz (clip a)) (sz (clip b)) P)) (fun _ p => (intOf p).toNat)
  case atStart => exact ⟨1000000000000000, Or.inr ⟨ten_first, by omega, by omega⟩, rfl, by rw [sofar_first _ _ b2]⟩
  case round =>
    obtain ⟨P, hP, rfl, rfl⟩ := hrel
    rcases hP with rfl | ⟨ht, hp, hle⟩
    · have ab := sofar_bd (sz (clip a)) (sz (clip b)) 0 b1 b2.1 (by omega)
      go_wp2
      go_ret
      exact ⟨ret_int (by rw [HM.out]; unfold sofar; rw [if_pos rfl]), rfl⟩
    · have ab := sofar_bd (sz (clip a)) (sz (clip b)) P b1 b2.1 (by omega)
      have q0 : 0 ≤ B / P := Int.ediv_nonneg (by omega) (by omega)
      have q1 : B / P ≤ B := Int.ediv_le_self P (by omega)
      have Z : Hid _ := pway_zero (sz (clip a)) (sz (clip b)) P b1 b2.1 hp
      rw [← sofar_at _ _ _ hp] at Z
      go_wp2_with (go_at_call 29; refine (rclip_any _ _).mono ?_; rintro e w' ⟨rfl, rfl⟩)
      go_loop [6, 8] (fun n k => ∃ i : Int, 0 ≤ i ∧ i ≤ B / P % 10 ∧ k = .int .i64 i ∧ n = .int .i64 (pway (sz (clip a)) (sz (clip b)) P i)) (fun _ k => (10 - intOf k).toNat)
      case atStart => exact ⟨0, by omega, by omega, rfl, by rw [Z.out]⟩
      case round =>
        obtain ⟨i, hi, hj, rfl, rfl⟩ := hrel
        have pb := pway_bd (sz (clip a)) (sz (clip b)) P i b1 b2.1 hp hi
        have S : Hid _ := pway_step (sz (clip a)) (sz (clip b)) P i b1 b2.1 hp hi
        by_cases hlt : i < B / P % 10
        · go_wp2_with (go_at_call 29; refine (rclip_any _ _).mono ?_; rintro e w' ⟨rfl, rfl⟩)
          go_round
          case rel => exact ⟨i + 1, by omega, by omega, rfl, by rw [S.out, E1.out]⟩
          case measure => simp [intOf]; omega
        · go_wp2
          go_round
          case rel =>
            refine ⟨P / 10, ?_, rfl, ?_⟩
            · rcases ten_next ht.out with h | ⟨h, h'⟩
              · left; omega
              · right; exact ⟨h, ten_pos h, by omega⟩
            · rw [← sofar_next _ _ _ ht.out, ← pway_last _ _ _ hp]
              have e : i = sz (clip b) / P % 10 := by rw [E2.out]; omega
              rw [e]
          case measure => simp [intOf]; omega

theorem rmul_pos_pos (a b : Int) (w : World) (s1 : 0 ≤ clip a) (s2 : 0 ≤ clip b) :
    Calls Try.prog 30 #[.int .i64 a, .int .i64 b] w fun e w' => e = .returned (.int .i64 (mulc (clip a) (clip b))) ∧ w' = w := by
  have ha := clip_bd a
  have hb := clip_bd b
  have d1 : decide (clip a < 0) = false := by simp; omega
  have d2 : decide (clip b < 0) = false := by simp; omega
  have E1 : Hid (sz (clip a) = clip a) := sz_pos s1
  have E2 : Hid (sz (clip b) = clip b) := sz_pos s2
  have b1 : 0 ≤ sz (clip a) := (sz_bd _ ha).1
  have b2 := sz_bd _ hb
  have HM : Hid _ := mulc_plus (clip a) (clip b) (by rw [d1, d2]; rfl)
  go_enter Try.func30, Try.ntmps30
  go_wp2_with (go_at_call 29; refine (rclip_any _ _).mono ?_; rintro e w' ⟨rfl, rfl⟩)
  go_loop [6, 7] (fun n p => ∃ P : Int, (P = 0 ∨ (Hid (Ten P) ∧ 1 ≤ P ∧ P ≤ 1000000000000000)) ∧ p = .int .i64 P ∧ n = .int .i64 (sofar (sz (clip a)) (sz (clip b)) P)) (fun _ p => (intOf p).toNat)
  case atStart => exact ⟨1000000000000000, Or.inr ⟨ten_first, by omega, by omega⟩, rfl, by rw [sofar_first _ _ b2]⟩
  case round =>
    obtain ⟨P, hP, rfl, rfl⟩ := hrel
    rcases hP with rfl | ⟨ht, hp, hle⟩
    · have ab := sofar_bd (sz (clip a)) (sz (clip b)) 0 b1 b2.1 (by omega)
      go_wp2
      go_ret
      exact ⟨ret_int (by rw [HM.out]; unfold sofar; rw [if_pos rfl]), rfl⟩
    · have ab := sofar_bd (sz (clip a)) (sz (clip b)) P b1 b2.1 (by omega)
      have q0 : 0 ≤ clip b / P := Int.ediv_nonneg (by omega) (by omega)
      have q1 : clip b / P ≤ clip b := Int.ediv_le_self P (by omega)
      have Z : Hid _ := pway_zero (sz (clip a)) (sz (clip b)) P b1 b2.1 hp
      rw [← sofar_at _ _ _ hp] at Z
      go_wp2_with (go_at_call 29; refine (rclip_any _ _).mono ?_; rintro e w' ⟨rfl, rfl⟩)
      go_loop [6, 8] (fun n k => ∃ i : Int, 0 ≤ i ∧ i ≤ clip b / P % 10 ∧ k = .int .i64 i ∧ n = .int .i64 (pway (sz (clip a)) (sz (clip b)) P i)) (fun _ k => (10 - intOf k).toNat)
      case atStart => exact ⟨0, by omega, by omega, rfl, by rw [Z.out]⟩
      case round =>
        obtain ⟨i, hi, hj, rfl, rfl⟩ := hrel
        have pb := pway_bd (sz (clip a)) (sz (clip b)) P i b1 b2.1 hp hi
        have S : Hid _ := pway_step (sz (clip a)) (sz (clip b)) P i b1 b2.1 hp hi
        by_cases hlt : i < clip b / P % 10
        · go_wp2_with (go_at_call 29; refine (rclip_any _ _).mono ?_; rintro e w' ⟨rfl, rfl⟩)
          go_round
          case rel => exact ⟨i + 1, by omega, by omega, rfl, by rw [S.out, E1.out]⟩
          case measure => simp [intOf]; omega
        · go_wp2
          go_round
          case rel =>
            refine ⟨P / 10, ?_, rfl, ?_⟩
            · rcases ten_next ht.out with h | ⟨h, h'⟩
              · left; omega
              · right; exact ⟨h, ten_pos h, by omega⟩
            · rw [← sofar_next _ _ _ ht.out, ← pway_last _ _ _ hp]
              have e : i = sz (clip b) / P % 10 := by rw [E2.out]; omega
              rw [e]
          case measure => simp [intOf]; omega

theorem rmul_any (a b : Int) (w : World) :
    Calls Try.prog 30 #[.int .i64 a, .int .i64 b] w fun e w' => e = .returned (.int .i64 (mulc (clip a) (clip b))) ∧ w' = w := by
  rcases Int.lt_or_le (clip a) 0 with s1 | s1 <;> rcases Int.lt_or_le (clip b) 0 with s2 | s2
  · exact rmul_neg_neg a b w s1 s2
  · exact rmul_neg_pos a b w s1 s2
  · exact rmul_pos_neg a b w s1 s2
  · exact rmul_pos_pos a b w s1 s2

theorem rshare_any (a b : Int) (w : World) :
    Calls Try.prog 18 #[.int .i64 a, .int .i64 b] w fun e w' => e = .returned (.int .i64 (share (atz (clip a)) (atz (clip b)))) ∧ w' = w := by
  have ha := atz_bd _ (clip_bd a)
  have hb := atz_bd _ (clip_bd b)
  have hl := left_bd (atz (clip a)) (atz (clip b))
  have c1 := clip_bd (atz (clip a) / 1000 * atz (clip b))
  have m1 := mulc_lim (clip (atz (clip a) / 1000)) (clip (atz (clip b)))
  have m2 := mulc_lim (clip (atz (clip a) % 1000)) (clip (atz (clip b) / 1000))
  have c2 := clip_bd (mulc (clip (atz (clip a) / 1000)) (clip (atz (clip b))) + mulc (clip (atz (clip a) % 1000)) (clip (atz (clip b) / 1000)))
  have HS : Hid _ := rshare_ok _ _ ha hb
  have ea : (if clip a < 0 then (0 : Int) else clip a) = atz (clip a) := rfl
  have eb : (if clip b < 0 then (0 : Int) else clip b) = atz (clip b) := rfl
  go_enter Try.func18, Try.ntmps18
  go_wp2_with (first | (go_at_call 29; refine (rclip_any _ _).mono ?_; rintro e w' ⟨rfl, rfl⟩) | (go_at_call 30; refine (rmul_any _ _ _).mono ?_; rintro e w' ⟨rfl, rfl⟩))
  go_ret
  exact ⟨ret_int HS.out, rfl⟩

end Num
end Go.Proofs.Ytanlhkokghjadac
