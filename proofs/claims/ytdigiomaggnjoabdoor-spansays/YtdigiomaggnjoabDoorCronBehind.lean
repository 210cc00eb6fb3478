/- What cron.dayBehind answers. -/
import Derived.Test.YtdigiomaggnjoabDoorCronDays
import Derived.Test.YtdigiomaggnjoabDoorNextPlain
import Derived.Deep.QuietTactic
import Derived.BigQuiet
namespace Go.Proofs.YtdigiomaggnjoabDoor
namespace Crn
open Go.RowKit Lai Civ Cal
set_option maxRecDepth 8000

theorem dset_u {da we : Int} {ad aw : Bool} {y m v : Int} (h : DaySet da we ad aw y m v) : U v := h.1

theorem next_month {da mn we : Int} {ad aw : Bool} {y m D : Int} (h : Seen da mn we ad aw D (beg y m + dim y m) ∧ D < beg y m + dim y m) (hm : 1 ≤ m ∧ m ≤ 11) :
    Seen da mn we ad aw D (beg y (m + 1) + 1 - 1) ∧ D < beg y (m + 1) + 1 - 1 ∧ D < beg y (m + 1) + dim y (m + 1) := by
  have db := dim_bd y (m + 1)
  rw [beg_next y m hm, show beg y m + dim y m + 1 - 1 = beg y m + dim y m by omega]
  exact ⟨h.1, h.2, by omega⟩
theorem next_year {da mn we : Int} {ad aw : Bool} {y D : Int} (h : Seen da mn we ad aw D (beg y 12 + dim y 12) ∧ D < beg y 12 + dim y 12) :
    Seen da mn we ad aw D (beg (y + 1) 1 + 1 - 1) ∧ D < beg (y + 1) 1 + 1 - 1 ∧ D < beg (y + 1) 1 + dim (y + 1) 1 := by
  have db := dim_bd (y + 1) 1
  rw [beg_year y, show beg y 12 + dim y 12 + 1 - 1 = beg y 12 + dim y 12 by omega]
  exact ⟨h.1, h.2, by omega⟩

set_option maxHeartbeats 8000000 in
theorem behind_any (mi ho da mn we : Int) (ad aw : Bool) (y0 m0 d0 h i s k : Int) (w : World) (G : Good mi ho da mn we) (hT : TabIs64 w)
    (hy : -3900 ≤ y0 ∧ y0 ≤ 7900) (hm : 1 ≤ m0 ∧ m0 ≤ 12) (hd : 1 ≤ d0 ∧ d0 ≤ dim y0 m0) :
    Calls Tryd.prog 33 #[cronV mi ho da mn we ad aw, civ y0 m0 d0 h i s k, .int .i64 (num y0 m0 d0 + 3000)] w
      fun e w' => ∃ n ok, e = .returned (.tuple #[.int .i64 n, .bool ok]) ∧ Behind da mn we ad aw (beg y0 m0 + d0 - 1) n ok ∧ Below w.heap.size w w' := by
  obtain ⟨ms, hms⟩ := G.gmn0
  have hms2 := G.g12 _ hms
  have HM : Hid (inS mn ms = true) := hms
  clear hms
  have db0 := dim_bd y0 m0
  have n0 := num_bd y0 m0 d0 (vld_mk ⟨by omega, by omega, hm.1, hm.2, hd.1, hd.2⟩)
  have HN : Hid (num y0 m0 d0 = beg y0 m0 + d0 - 1 - 2180498) := num_beg y0 m0 d0
  have HJ : Hid (num y0 m0 d0 + 3000 ≤ num (y0 + 10) ms 1 - 1) := by
    have e1 := num_beg y0 m0 d0
    have e2 := num_beg (y0 + 10) ms 1
    have e3 := beg_ge (y0 + 10) ms
    have e4 := ys_ten y0
    have e5 := in_year y0 m0 d0 ⟨hm.1, hm.2, hd.1, hd.2⟩
    have e6 := ys_succ y0
    have e7 : beg y0 m0 = ys y0 + cum y0 m0 := rfl
    show _ ≤ _
    omega
  go_enter Tryd.func33, Tryd.ntmps33
  go_wp2
  go_quiet (fail)
  go_wp2
  go_loopw [8, 9, 10] (fun t8 t9 t10 wr => ∃ y m d : Int, (y0 ≤ y ∧ y ≤ y0 + 10) ∧ (1 ≤ m ∧ m ≤ 12) ∧ (1 ≤ d ∧ d ≤ 32) ∧ 12 * y + m ≤ 12 * (y0 + 10) + ms ∧ t8 = .int .i64 y ∧ t9 = .int .i64 m ∧ t10 = .int .i64 d ∧
      Hid (Seen da mn we ad aw (beg y0 m0 + d0 - 1) (beg y m + d - 1) ∧ beg y0 m0 + d0 - 1 < beg y m + d - 1 ∧ beg y0 m0 + d0 - 1 < beg y m + dim y m) ∧
      Below w.heap.size w wr ∧ w.heap.size < wr.heap.size ∧ (∀ o, wr.cell? ⟨w.heap.size, o, none⟩ = (#[Value.int .u64 mi, .int .u64 ho, .int .u64 da, .int .u64 mn, .int .u64 we, .bool ad, .bool aw])[o]?))
    (fun t8 t9 _ _ => (12 * (y0 + 10) + 24 - (12 * intOf t8 + intOf t9)).toNat)
  case atStart =>
    refine ⟨y0, m0, d0 + 1, by omega, hm, by omega, by omega, rfl, rfl, rfl, ⟨fun x h1 h2 => absurd h2 (by omega), by omega, by omega⟩, ?_, ?_, ?_⟩
    · exact bdrewN (balloc2 _ _) _
    · simp; omega
    · intro o; simp
  case round =>
    obtain ⟨y, m, d, hy1, hm1, hd1, hJ, rfl, rfl, rfl, HS, hbr, hzr, hcr⟩ := hrel
    have c1 := fun w => has_any mn m w G.gmn (by omega)
    have c2 := fun w => daysOf_any mi ho da mn we ad aw y m w G.gda G.g31 G.gwe (by omega) hm1
    have nb := num_one_bd y m (by omega) hm1
    have hTr : TabIs64 wr := hT.below hbr (Nat.le_refl _)
    cases hi : inS mn m
    all_goals
      rw [hi] at c1
      have HI : Hid (inS mn m = _) := hi
      clear hi
    · have hne : m ≠ ms := by
        intro e
        have h1 : inS mn m = false := HI
        rw [e, show inS mn ms = true from HM] at h1
        cases h1
      have hsee := seen_skip HS.1 hm1 hd1.1 HI
      have HS2 : Hid (Seen da mn we ad aw (beg y0 m0 + d0 - 1) (beg y m + dim y m) ∧ beg y0 m0 + d0 - 1 < beg y m + dim y m) := ⟨hsee, HS.2.2⟩
      clear hsee HS c2
      go_wp2_with (go_at_call 39; with_reducible refine (c1 _).mono ?_; rintro e w1 ⟨rfl, rfl⟩)
      all_goals
        go_roundw
        case rel =>
          first
            | (exfalso; omega)
            | exact ⟨y, m + 1, 1, by omega, by omega, by omega, by omega, rfl, rfl, rfl, next_month HS2 (by omega), hbr, hzr, hcr⟩
            | (obtain rfl : m = 12 := by omega
               exact ⟨y + 1, 1, 1, by omega, by omega, by omega, by omega, rfl, rfl, rfl, next_year HS2, hbr, hzr, hcr⟩)
        case measure => simp [intOf]; omega
    · go_wp2_with (first
        | (go_at_call 39; with_reducible refine (c1 _).mono ?_; rintro e w1 ⟨rfl, rfl⟩)
        | (go_at_call 41; (with_reducible refine (c2 _).mono ?_); rintro e w2 ⟨v, rfl, hv, hb2⟩; have hT2 : TabIs64 w2 := hTr.below hb2 (Nat.le_refl _); have f := frm_bd v d (dset_u hv) (by omega); have c3 := from_any v d w2 (dset_u hv) (by omega) hT2; have hz2 : w.heap.size < w2.heap.size := (by have := hb2.size; omega))
        | (go_at_call 42; (with_reducible refine c3.mono ?_); rintro e w3 ⟨rfl, rfl⟩; clear c3; cases hf : frmB v d))
      all_goals first
        | (go_ret2
           refine ⟨_, _, rfl, ?_, hbr.trans (hb2.mono (by omega))⟩
           first
             | (have hh := found HS.1 hm1 (by omega) hd1.1 HS.2.1 hv hf HI
                rw [← (show num y0 m0 d0 = beg y0 m0 + d0 - 1 - 2180498 from HN)] at hh
                exact hh)
             | exact ended HS.1 (by omega) hd1.1 (by rw [← (show num y0 m0 d0 = beg y0 m0 + d0 - 1 - 2180498 from HN)]; omega) hv.1)
        | (go_roundw
           case rel =>
             have hne : 12 * y + m ≠ 12 * (y0 + 10) + ms := by
               intro e
               have e1 : m = ms := by omega
               have e2 : y = y0 + 10 := by omega
               have h1 : num y0 m0 d0 + 3000 ≤ num (y0 + 10) ms 1 - 1 := HJ
               rw [← e1, ← e2] at h1
               omega
             have hlt : 12 * y + m < 12 * (y0 + 10) + ms := by clear hcr; omega
             have HS2 : Hid (Seen da mn we ad aw (beg y0 m0 + d0 - 1) (beg y m + dim y m) ∧ beg y0 m0 + d0 - 1 < beg y m + dim y m) := ⟨seen_month HS.1 hm1 hd1.1 hv hf, HS.2.2⟩
             have hc2 : ∀ o, w3.cell? ⟨w.heap.size, o, none⟩ = (#[Value.int .u64 mi, .int .u64 ho, .int .u64 da, .int .u64 mn, .int .u64 we, .bool ad, .bool aw])[o]? := fun o => (hb2.cell (p := ⟨w.heap.size, o, none⟩) hzr).trans (hcr o)
             first
               | exact ⟨y, m + 1, 1, by omega, by omega, by omega, by omega, rfl, rfl, rfl, next_month HS2 (by omega), hbr.trans (hb2.mono (by omega)), hz2, hc2⟩
               | (obtain rfl : m = 12 := by omega
                  exact ⟨y + 1, 1, 1, by omega, by omega, by omega, by omega, rfl, rfl, rfl, next_year HS2, hbr.trans (hb2.mono (by omega)), hz2, hc2⟩)
           case measure => simp [intOf]; omega)
end Crn
end Go.Proofs.YtdigiomaggnjoabDoor
