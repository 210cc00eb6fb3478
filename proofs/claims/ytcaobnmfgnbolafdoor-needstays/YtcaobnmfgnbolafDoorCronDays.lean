
/- What cron.weekDays and cron.daysOf answer. -/
import Derived.Test.YtcaobnmfgnbolafDoorCronMin
import Derived.Test.YtcaobnmfgnbolafDoorCronPlain
namespace Go.Proofs.YtcaobnmfgnbolafDoor
namespace Crn
open Go.RowKit Lai Civ Cal
set_option maxRecDepth 8000

set_option maxHeartbeats 2000000 in
theorem week_any (we first : Int) (w : World) (hw : Upto we 6) (hf : -3000000 ≤ first ∧ first ≤ 3000000) :
    Calls Tryd.prog 113 #[.int .u64 we, .int .i64 first] w fun e w' => ∃ v, e = .returned (.int .u64 v) ∧ WkD we first v ∧ Below w.heap.size w w' := by
  have hr := rem7 (first + 4)
  have hr1 := rem7_bd (first + 4)
  have hr2 : 0 ≤ (first + 4) % 7 ∧ (first + 4) % 7 ≤ 6 := by omega
  go_enter Tryd.func113, Tryd.ntmps113
  go_wp2
  go_loop [6, 13] (fun t i => ∃ (k : Nat) (v : Int), k ≤ 6 ∧ i = .int .i64 k ∧ t = .int .u64 v ∧ WkOK we v k) (fun _ i => 6 - (intOf i).toNat)
  case atStart => exact ⟨0, 0, by omega, rfl, rfl, wk_zero _⟩
  case round =>
    obtain ⟨k, v, hk, rfl, rfl, hv⟩ := hrel
    by_cases hk6 : k < 6
    · have hk' : (k : Int) < 6 := by omega
      have hmin : min (7 * (k : Int)).toNat 64 = (7 * (k : Int)).toNat := by omega
      go_wp2
      go_round
      case rel => exact ⟨k + 1, _, by omega, by go_num, rfl, wk_step hv hw hk6⟩
      case measure => simp [intOf]; omega
    · obtain rfl : k = 6 := by omega
      go_wp2
      go_region_with (go_at_call 48; with_reducible refine (all_day _).mono ?_; rintro e w1 ⟨rfl, hb1⟩)
      all_goals
        go_wp2
        go_ret
        exact ⟨_, rfl, wk_days hv, (Below.refl _ _).drew.trans hb1⟩

theorem num_one_bd (y m : Int) (hy : -4000 ≤ y ∧ y ≤ 8000) (hm : 1 ≤ m ∧ m ≤ 12) : -3000000 ≤ num y m 1 ∧ num y m 1 ≤ 3000000 := by
  have := num_bd y m 1 (vld_mk ⟨hy.1, hy.2, hm.1, hm.2, by omega, by have := dim_bd y m; omega⟩)
  omega

set_option maxHeartbeats 4000000 in
theorem daysOf_any (mi ho da mo we : Int) (ad aw : Bool) (y m : Int) (w : World) (b2 : U da) (h31 : ∀ n, inS da n = true → 1 ≤ n ∧ n ≤ 31) (hw : Upto we 6) (hy : -4000 ≤ y ∧ y ≤ 8000) (hm : 1 ≤ m ∧ m ≤ 12) :
    Calls Tryd.prog 95 #[cronV mi ho da mo we ad aw, .int .i64 y, .int .i64 m] w fun e w' => ∃ v, e = .returned (.tuple #[.int .i64 (num y m 1 - 1), .int .u64 v]) ∧ DaySet da we ad aw y m v ∧ Below w.heap.size w w' := by
  have nb := num_one_bd y m hy hm
  have db := dim_bd y m
  have c1 := fun w => days_yes y m 1 w (vld_mk ⟨hy.1, hy.2, hm.1, hm.2, by omega, by omega⟩)
  have c2 := fun w => week_any we (num y m 1) w hw nb
  cases hany : (!ad && !aw)
  all_goals
    have c3 := fun w => either_any mi ho da mo we ad aw w
    rw [hany] at c3
    have HA : Hid ((!ad && !aw) = _) := hany
    clear hany
    go_enter Tryd.func95, Tryd.ntmps95
    go_wp2_with (first
      | (go_at_call 70; with_reducible refine (c1 _).mono ?_; rintro e w1 ⟨rfl, rfl⟩)
      | (go_at_call 113; with_reducible refine (c2 _).mono ?_; rintro e w2 ⟨k, rfl, hk, hb2⟩; obtain ⟨hc2, hf2⟩ := bcell hb2; have hz2 : w.heap.size < w2.heap.size := (by have := hb2.size; simp at this; omega))
      | (go_at_call 94; with_reducible refine (c3 _).mono ?_; rintro e w3 ⟨rfl, hb3⟩; obtain ⟨hc3, hf3⟩ := bcell hb3))
    have hw3 : Hid (Below w.heap.size w w3) := ((balloc _).trans (hb2.mono (by simp))).trans (hb3.mono (by omega))
    have u0 : 0 ≤ k ∧ k ≤ 18446744073709551615 := hk.1
    clear hc2 hf2 hc3 hf3 hb2 hb3 c1 c2 c3
    go_loop [11, 12] (fun t i => ∃ (d v : Int), 29 ≤ d ∧ d ≤ 32 ∧ i = .int .i64 d ∧ t = .int .u64 v ∧ DOK y m (bits (if (!ad && !aw) = true then .or else .and) .u64 da k) v d) (fun _ i => (32 - intOf i).toNat)
    case atStart =>
      refine ⟨29, _, by omega, by omega, rfl, rfl, ?_⟩
      rw [HA]
      first | exact dok_zero (u_and _ _ b2 u0) | exact dok_zero (u_or _ _ b2 u0)
    case round =>
      obtain ⟨d, v, hd1, hd2, rfl, rfl, hv⟩ := hrel
      by_cases g : d ≤ 31
      · by_cases g2 : d ≤ dim y m
        · have c4 := fun w => days_yes y m d w (vld_mk ⟨hy.1, hy.2, hm.1, hm.2, by omega, by omega⟩)
          go_wp2_with (go_at_call 70; with_reducible refine (c4 _).mono ?_; rintro e w4 ⟨rfl, rfl⟩)
          go_round
          case rel => exact ⟨d + 1, v, by omega, by omega, rfl, rfl, dok_keep hv g2⟩
          case measure => simp [intOf]; omega
        · have c4 := fun w => days_no y m d w (by
            cases e : vldB y m d
            · rfl
            · have := (vld_iff _ _ _).1 e; omega)
          have hp := wrap_pow d.toNat (by omega)
          have hmin : min d.toNat 64 = d.toNat := by omega
          go_wp2_with (go_at_call 70; with_reducible refine (c4 _).mono ?_; rintro e w4 ⟨rfl, rfl⟩)
          go_round
          case rel => exact ⟨d + 1, _, by omega, by omega, rfl, rfl, dok_drop hv ⟨hd1, g⟩ (by omega)⟩
          case measure => simp [intOf]; omega
      · obtain rfl : d = 32 := by omega
        go_wp2
        go_ret2
        rw [HA] at hv
        refine ⟨v, rfl, ?_, hw3⟩
        first
          | exact dset_and b2 HA hk hv
          | (obtain ⟨rfl, rfl⟩ : ad = false ∧ aw = false := by
               have : (!ad && !aw) = true := HA
               simpa using this
             exact dset_or b2 h31 hk hv)
end Crn
end Go.Proofs.YtcaobnmfgnbolafDoor
