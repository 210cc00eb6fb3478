
/- What cron.dayAhead answers. -/
import Derived.Test.YtcaobnmfgnbolafDoorCronBehind
namespace Go.Proofs.YtcaobnmfgnbolafDoor
namespace Crn
open Go.RowKit Lai Civ Cal
set_option maxRecDepth 8000

theorem prev_month {da mn we : Int} {ad aw : Bool} {y m D : Int} (h : Seen da mn we ad aw (beg y m - 1) D ∧ beg y m - 1 < D) (hm : 2 ≤ m ∧ m ≤ 12) :
    Seen da mn we ad aw (beg y (m - 1) + dim y (m - 1) - 1) D ∧ Lim y (m - 1) 31 (dim y (m - 1)) ∧ beg y (m - 1) + dim y (m - 1) - 1 < D ∧ 0 ≤ dim y (m - 1) := by
  have db := dim_bd y (m - 1)
  have e := beg_next y (m - 1) (by omega)
  rw [show m - 1 + 1 = m by omega] at e
  rw [← e]
  exact ⟨h.1, Or.inr ⟨by omega, rfl⟩, h.2, by omega⟩
theorem prev_year {da mn we : Int} {ad aw : Bool} {y D : Int} (h : Seen da mn we ad aw (beg y 1 - 1) D ∧ beg y 1 - 1 < D) :
    Seen da mn we ad aw (beg (y - 1) 12 + dim (y - 1) 12 - 1) D ∧ Lim (y - 1) 12 31 (dim (y - 1) 12) ∧ beg (y - 1) 12 + dim (y - 1) 12 - 1 < D ∧ 0 ≤ dim (y - 1) 12 := by
  have db := dim_bd (y - 1) 12
  have e := beg_year (y - 1)
  rw [show y - 1 + 1 = y by omega] at e
  rw [← e]
  exact ⟨h.1, Or.inr ⟨by omega, rfl⟩, h.2, by omega⟩

set_option maxHeartbeats 8000000 in
theorem ahead_any (mi ho da mn we : Int) (ad aw : Bool) (y0 m0 d0 h i s k : Int) (w : World) (G : Good mi ho da mn we)
    (hy : -3900 ≤ y0 ∧ y0 ≤ 7900) (hm : 1 ≤ m0 ∧ m0 ≤ 12) (hd : 1 ≤ d0 ∧ d0 ≤ dim y0 m0) :
    Calls Tryd.prog 73 #[cronV mi ho da mn we ad aw, civ y0 m0 d0 h i s k, .int .i64 (num y0 m0 d0 - 3000)] w
      fun e w' => ∃ n ok, e = .returned (.tuple #[.int .i64 n, .bool ok]) ∧ Ahead da mn we ad aw (beg y0 m0 + d0 - 1) n ok ∧ Below w.heap.size w w' := by
  obtain ⟨ms, hms⟩ := G.gmn0
  have hms2 := G.g12 _ hms
  have HM : Hid (inS mn ms = true) := hms
  clear hms
  have db0 := dim_bd y0 m0
  have n0 := num_bd y0 m0 d0 (vld_mk ⟨by omega, by omega, hm.1, hm.2, hd.1, hd.2⟩)
  have HN : Hid (num y0 m0 d0 = beg y0 m0 + d0 - 1 - 2180498) := num_beg y0 m0 d0
  have HJ : Hid (num (y0 - 10) ms 1 - 1 < num y0 m0 d0 - 3000) := by
    have e1 := num_beg y0 m0 d0
    have e2 := num_beg (y0 - 10) ms 1
    have e3 := beg_le (y0 - 10) ms hms2
    rw [show y0 - 10 + 1 = y0 - 9 by omega] at e3
    have e4 := ys_nine y0
    have e5 := in_year y0 m0 d0 ⟨hm.1, hm.2, hd.1, hd.2⟩
    have e7 : beg y0 m0 = ys y0 + cum y0 m0 := rfl
    show _ < _
    omega
  go_enter Tryd.func73, Tryd.ntmps73
  go_wp2
  go_quiet (fail)
  go_wp2
  go_loopw [8, 9, 10] (fun t8 t9 t10 wr => ∃ y m d q : Int, (y0 - 10 ≤ y ∧ y ≤ y0) ∧ (1 ≤ m ∧ m ≤ 12) ∧ (0 ≤ d ∧ d ≤ 31) ∧ 12 * (y0 - 10) + ms ≤ 12 * y + m ∧ t8 = .int .i64 y ∧ t9 = .int .i64 m ∧ t10 = .int .i64 d ∧
      Hid (Seen da mn we ad aw (beg y m + q - 1) (beg y0 m0 + d0 - 1) ∧ Lim y m d q ∧ beg y m + q - 1 < beg y0 m0 + d0 - 1 ∧ 0 ≤ q) ∧
      Below w.heap.size w wr ∧ w.heap.size < wr.heap.size ∧ (∀ o, wr.cell? ⟨w.heap.size, o, none⟩ = (#[Value.int .u64 mi, .int .u64 ho, .int .u64 da, .int .u64 mn, .int .u64 we, .bool ad, .bool aw])[o]?))
    (fun t8 t9 _ _ => (12 * intOf t8 + intOf t9 - 12 * (y0 - 10) + 24).toNat)
  case atStart =>
    refine ⟨y0, m0, d0 - 1, d0 - 1, by omega, hm, by omega, by omega, rfl, rfl, rfl, ⟨fun x h1 h2 => absurd h2 (by omega), Or.inl ⟨by omega, rfl⟩, by omega, by omega⟩, ?_, ?_, ?_⟩
    · exact bdrewN (balloc2 _ _) _
    · simp; omega
    · intro o; simp
  case round =>
    obtain ⟨y, m, d, q, hy1, hm1, hd1, hJ, rfl, rfl, rfl, HS, hbr, hzr, hcr⟩ := hrel
    have c1 := fun w => has_any mn m w G.gmn (by omega)
    have c2 := fun w => daysOf_any mi ho da mn we ad aw y m w G.gda G.g31 G.gwe (by omega) hm1
    have nb := num_one_bd y m (by omega) hm1
    cases hi : inS mn m
    all_goals
      rw [hi] at c1
      have HI : Hid (inS mn m = _) := hi
      clear hi
    · have hne : m ≠ ms := by
        intro e
        have h1 : inS mn m = false := HI
        rw [e, show inS mn ms = true from HM] at h1
        cases h1
      have HS2 : Hid (Seen da mn we ad aw (beg y m - 1) (beg y0 m0 + d0 - 1) ∧ beg y m - 1 < beg y0 m0 + d0 - 1) := ⟨aseen_skip HS.1 HS.2.1 hm1 HI, (by have a := HS.2.2.1; have b := HS.2.2.2; omega)⟩
      clear HS c2
      go_wp2_with (go_at_call 93; (with_reducible refine (c1 _).mono ?_); rintro e w1 ⟨rfl, rfl⟩)
      all_goals
        go_roundw
        case rel =>
          first
            | exact ⟨y, m - 1, 31, _, by omega, by omega, by omega, by omega, rfl, rfl, rfl, prev_month HS2 (by omega), hbr, hzr, hcr⟩
            | (obtain rfl : m = 1 := by omega
               exact ⟨y - 1, 12, 31, _, by omega, by omega, by omega, by omega, rfl, rfl, rfl, prev_year HS2, hbr, hzr, hcr⟩)
        case measure => simp [intOf]; omega
    · go_wp2_with (first
        | (go_at_call 93; (with_reducible refine (c1 _).mono ?_); rintro e w1 ⟨rfl, rfl⟩)
        | (go_at_call 95; (with_reducible refine (c2 _).mono ?_); rintro e w2 ⟨v, rfl, hv, hb2⟩; have f := upt_bd v d (dset_u hv) (by omega); have c3 := upto_any v d w2 (dset_u hv) (by omega); have hz2 : w.heap.size < w2.heap.size := (by have := hb2.size; omega))
        | (go_at_call 92; (with_reducible refine c3.mono ?_); rintro e w3 ⟨rfl, rfl⟩; clear c3; cases hf : uptB v d))
      all_goals first
        | (go_ret2
           refine ⟨_, _, rfl, ?_, hbr.trans (hb2.mono (by omega))⟩
           first
             | (have hh := afound HS.1 HS.2.1 hm1 (by omega) hd1.1 HS.2.2.1 hv hf HI
                rw [← (show num y0 m0 d0 = beg y0 m0 + d0 - 1 - 2180498 from HN)] at hh
                exact hh)
             | exact aended (aseen_month HS.1 HS.2.1 hm1 hd1.1 hv hf) (by omega) (by rw [← (show num y0 m0 d0 = beg y0 m0 + d0 - 1 - 2180498 from HN)]; omega) hf)
        | (go_roundw
           case rel =>
             have hne : 12 * y + m ≠ 12 * (y0 - 10) + ms := by
               intro e
               have e1 : m = ms := by omega
               have e2 : y = y0 - 10 := by omega
               have h1 : num (y0 - 10) ms 1 - 1 < num y0 m0 d0 - 3000 := HJ
               rw [← e1, ← e2] at h1
               omega
             have HS2 : Hid (Seen da mn we ad aw (beg y m - 1) (beg y0 m0 + d0 - 1) ∧ beg y m - 1 < beg y0 m0 + d0 - 1) := ⟨aseen_month HS.1 HS.2.1 hm1 hd1.1 hv hf, (by have a := HS.2.2.1; have b := HS.2.2.2; omega)⟩
             have hc2 : ∀ o, w3.cell? ⟨w.heap.size, o, none⟩ = (#[Value.int .u64 mi, .int .u64 ho, .int .u64 da, .int .u64 mn, .int .u64 we, .bool ad, .bool aw])[o]? := fun o => (hb2.cell (p := ⟨w.heap.size, o, none⟩) hzr).trans (hcr o)
             first
               | exact ⟨y, m - 1, 31, _, by omega, by omega, by omega, by omega, rfl, rfl, rfl, prev_month HS2 (by omega), hbr.trans (hb2.mono (by omega)), hz2, hc2⟩
               | (obtain rfl : m = 1 := by omega
                  exact ⟨y - 1, 12, 31, _, by omega, by omega, by omega, by omega, rfl, rfl, rfl, prev_year HS2, hbr.trans (hb2.mono (by omega)), hz2, hc2⟩)
           case measure => simp [intOf]; omega)
end Crn
end Go.Proofs.YtcaobnmfgnbolafDoor
