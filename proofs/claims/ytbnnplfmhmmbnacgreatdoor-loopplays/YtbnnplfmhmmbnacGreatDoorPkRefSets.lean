/- What the document's answer (tideref) says of crons: sets. What the document's answer (tideref) says of a cron: Cron. What the document's answer (tideref) says of a span: Span. -/
import Derived.Test.YtbnnplfmhmmbnacGreatDoorPkRefCron
import Derived.Deep.RegionHeld
import Derived.Test.YtbnnplfmhmmbnacGreatDoorPkCronPlain
import Derived.Test.YtbnnplfmhmmbnacGreatDoorPkCronMatch
namespace Go.Proofs.YtbnnplfmhmmbnacGreatDoor
namespace RCrn
open Go.RowKit Lai Civ Cal Crn RCiv
set_option maxRecDepth 8000

theorem keep_alloc {W : World} {o : Obj} {a : Addr} {v : Value} (h : W.cell? a = some v) : (W.alloc o).cell? a = some v := by
  rw [World.cell?_alloc_some _ _ _ (by rw [h]; rfl)]; exact h
theorem keep_drew {W : World} {a : Addr} {v : Value} (h : W.cell? a = some v) : W.drew.cell? a = some v := h

theorem new1 (X : World) (D : Array Value) (t : TypeId) (o : Nat) : (X.alloc (.cells D t)).cell? ⟨X.heap.size, o, none⟩ = D[o]? := by simp
theorem new3 (W : World) (A B C : Array Value) (ta tb tc : TypeId) :
    (∀ o, (((W.alloc (.cells A ta)).alloc (.cells B tb)).alloc (.cells C tc)).drew.cell? ⟨W.heap.size, o, none⟩ = A[o]?) ∧
    (∀ o, (((W.alloc (.cells A ta)).alloc (.cells B tb)).alloc (.cells C tc)).drew.cell? ⟨W.heap.size + 1, o, none⟩ = B[o]?) ∧
    (∀ o, (((W.alloc (.cells A ta)).alloc (.cells B tb)).alloc (.cells C tc)).drew.cell? ⟨W.heap.size + 1 + 1, o, none⟩ = C[o]?) ∧
    W.heap.size + 1 + 1 < (((W.alloc (.cells A ta)).alloc (.cells B tb)).alloc (.cells C tc)).drew.heap.size ∧
    Below W.heap.size W (((W.alloc (.cells A ta)).alloc (.cells B tb)).alloc (.cells C tc)).drew := by
  refine ⟨fun o => ?_, fun o => ?_, fun o => ?_, ?_, ?_⟩
  · show (((W.alloc (.cells A ta)).alloc (.cells B tb)).alloc (.cells C tc)).cell? _ = _
    rw [(bcell (balloc _)).1 _ _ (by simp; omega), (bcell (balloc _)).1 _ _ (by simp)]; simp
  · show (((W.alloc (.cells A ta)).alloc (.cells B tb)).alloc (.cells C tc)).cell? _ = _
    rw [(bcell (balloc _)).1 _ _ (by simp)]
    have e : W.heap.size + 1 = (W.alloc (.cells A ta)).heap.size := by simp
    rw [e]; simp
  · show (((W.alloc (.cells A ta)).alloc (.cells B tb)).alloc (.cells C tc)).cell? _ = _
    have e : W.heap.size + 1 + 1 = ((W.alloc (.cells A ta)).alloc (.cells B tb)).heap.size := by simp
    rw [e]; exact new1 _ _ _ _
  · show _ < (((W.alloc (.cells A ta)).alloc (.cells B tb)).alloc (.cells C tc)).heap.size
    simp
  · exact ((((Below.refl _ _).alloc (Nat.le_refl _) _).alloc (by simp) _).alloc (by simp; omega) _).drew

set_option maxHeartbeats 8000000 in
theorem rsets_any (mi ho da mo we : Int) (ad aw : Bool) (w : World) :
    Calls Tryz.prog 53 #[cronV mi ho da mo we ad aw] w fun e w' => ∃ p q r : Nat, e = .returned (.tuple #[.slice (some ⟨p, 0, none⟩) 5 5, .slice (some ⟨q, 0, none⟩) 5 5, .slice (some ⟨r, 0, none⟩) 5 5]) ∧ p < w'.heap.size ∧ q < w'.heap.size ∧ r < w'.heap.size ∧
      (∀ o, w'.cell? ⟨p, o, none⟩ = (#[Value.int .u64 mi, .int .u64 ho, .int .u64 da, .int .u64 mo, .int .u64 we])[o]?) ∧
      (∀ o, w'.cell? ⟨q, o, none⟩ = (#[Value.int .i64 0, .int .i64 59, .int .i64 0, .int .i64 23, .int .i64 1, .int .i64 31, .int .i64 1, .int .i64 12, .int .i64 0, .int .i64 6])[o]?) ∧
      (∀ o, w'.cell? ⟨r, o, none⟩ = (#[Value.bool false, .bool false, .bool ad, .bool false, .bool aw])[o]?) ∧ Below w.heap.size w w' := by
  go_enter Tryz.func53, Tryz.ntmps53
  go_wp2
  obtain ⟨w0, hw0⟩ : ∃ w0, w0 = w.alloc (Obj.cells #[Value.int .u64 mi, .int .u64 ho, .int .u64 da, .int .u64 mo, .int .u64 we, .bool ad, .bool aw] 52) := ⟨_, rfl⟩
  have h0 : w0.cell? ⟨w.heap.size, 0, none⟩ = some (.int .u64 mi) := by rw [hw0]; simp
  have h1 : w0.cell? ⟨w.heap.size, 1, none⟩ = some (.int .u64 ho) := by rw [hw0]; simp
  have h2 : w0.cell? ⟨w.heap.size, 2, none⟩ = some (.int .u64 da) := by rw [hw0]; simp
  have h3 : w0.cell? ⟨w.heap.size, 3, none⟩ = some (.int .u64 mo) := by rw [hw0]; simp
  have h4 : w0.cell? ⟨w.heap.size, 4, none⟩ = some (.int .u64 we) := by rw [hw0]; simp
  have h5 : w0.cell? ⟨w.heap.size, 5, none⟩ = some (.bool ad) := by rw [hw0]; simp
  have h6 : w0.cell? ⟨w.heap.size, 6, none⟩ = some (.bool aw) := by rw [hw0]; simp
  have z0 : w.heap.size < w0.heap.size := by rw [hw0]; simp
  have z1 : w.heap.size < w0.heap.size + 1 := by omega
  have z2 : w.heap.size < w0.heap.size + 1 + 1 := by omega
  have hbel : Hid (Below w.heap.size w w0) := by rw [hw0]; exact balloc _
  rw [← hw0]
  clear hw0
  go_region_held (fun w' => w'.cell? ⟨w.heap.size, 0, none⟩ = some (.int .u64 mi) ∧ w'.cell? ⟨w.heap.size, 1, none⟩ = some (.int .u64 ho) ∧ w'.cell? ⟨w.heap.size, 2, none⟩ = some (.int .u64 da) ∧ w'.cell? ⟨w.heap.size, 3, none⟩ = some (.int .u64 mo) ∧ w'.cell? ⟨w.heap.size, 4, none⟩ = some (.int .u64 we) ∧ w'.cell? ⟨w.heap.size, 5, none⟩ = some (.bool ad) ∧ w'.cell? ⟨w.heap.size, 6, none⟩ = some (.bool aw)) ((refine ⟨?_, ?_, ?_, ?_, ?_, ?_, ?_⟩ <;> with_reducible refine keep_drew ?_) <;> ((repeat with_reducible refine keep_alloc ?_) <;> assumption)) (fail)
  all_goals
    go_wp2
    go_ret3
    refine ⟨_, _, _, rfl, ?_, ?_, ?_, ?_, ?_, ?_, ?_⟩
  all_goals first
    | exact (new3 w0 _ _ _ _ _ _).2.2.2.1
    | exact Nat.lt_trans (Nat.lt_succ_self _) (new3 w0 _ _ _ _ _ _).2.2.2.1
    | exact Nat.lt_trans (Nat.lt_succ_self _) (Nat.lt_trans (Nat.lt_succ_self _) (new3 w0 _ _ _ _ _ _).2.2.2.1)
    | exact (new3 w0 _ _ _ _ _ _).1
    | exact (new3 w0 _ _ _ _ _ _).2.1
    | exact (new3 w0 _ _ _ _ _ _).2.2.1
    | exact hbel.out.trans ((new3 w0 _ _ _ _ _ _).2.2.2.2.mono (Nat.le_of_lt z0))
end RCrn
end Go.Proofs.YtbnnplfmhmmbnacGreatDoor
namespace Go.Proofs.YtbnnplfmhmmbnacGreatDoor
namespace RCrn
open Go.RowKit Lai Civ Cal Crn RCiv
set_option maxRecDepth 8000

/-- the cells of the three slices, and the world's growth -/
def Laid3 (mi ho da mn we : Int) (ad aw : Bool) (p q r : Nat) (w wr : World) : Prop := p < wr.heap.size ∧ q < wr.heap.size ∧ r < wr.heap.size ∧ (∀ o, wr.cell? ⟨p, o, none⟩ = (#[Value.int .u64 mi, .int .u64 ho, .int .u64 da, .int .u64 mn, .int .u64 we])[o]?) ∧ (∀ o, wr.cell? ⟨q, o, none⟩ = (#[Value.int .i64 0, .int .i64 59, .int .i64 0, .int .i64 23, .int .i64 1, .int .i64 31, .int .i64 1, .int .i64 12, .int .i64 0, .int .i64 6])[o]?) ∧ (∀ o, wr.cell? ⟨r, o, none⟩ = (#[Value.bool false, .bool false, .bool ad, .bool false, .bool aw])[o]?) ∧ Below w.heap.size w wr
/-- the state of the round over the numbers -/
def ScanR (S lo hi mi ho da mn we : Int) (ad aw : Bool) (p q r : Nat) (w : World) (u v n : Value) (wr : World) : Prop := ∃ (x y : Bool) (m : Int), u = .bool x ∧ v = .bool y ∧ n = .int .i64 m ∧ 0 ≤ m ∧ m ≤ 64 ∧ Scan S lo hi m x y ∧ Laid3 mi ho da mn we ad aw p q r w wr
theorem laid_drewN {mi ho da mn we : Int} {ad aw : Bool} {p q r : Nat} {w wr : World} (h : Laid3 mi ho da mn we ad aw p q r w wr) (n : Nat) : Laid3 mi ho da mn we ad aw p q r w (wr.drewN n) := by
  obtain ⟨h1, h2, h3, h4, h5, h6, h7⟩ := h
  have b : Below wr.heap.size wr (wr.drewN n) := bdrewN (Below.refl _ _) n
  have s := b.size
  exact ⟨by omega, by omega, by omega, fun o => ((bcell b).1 _ _ h1).trans (h4 o), fun o => ((bcell b).1 _ _ h2).trans (h5 o), fun o => ((bcell b).1 _ _ h3).trans (h6 o), bdrewN h7 n⟩
theorem in_dec {n lo hi : Int} {y : Bool} (h : decide (lo ≤ n ∧ n ≤ hi) = y) (w : World) : Calls Tryz.prog 9 #[.int .i64 n, .int .i64 lo, .int .i64 hi] w fun e w' => e = .returned (.bool y) ∧ w' = w := by
  have := in_any n lo hi w
  rwa [show inB n lo hi = y from h] at this
theorem has_dec {s n : Int} {x : Bool} (h0 : U s) (h : inS s n = x) (w : World) : Calls Tryz.prog 54 #[.int .u64 s, .int .i64 n] w fun e w' => e = .returned (.bool x) ∧ w' = w := by
  have := rhas_any s n w h0
  rwa [h] at this

set_option maxHeartbeats 40000000 in
theorem rcron_any (mi ho da mn we : Int) (ad aw : Bool) (w : World) (b0 : U mi) (b1 : U ho) (b2 : U da) (b3 : U mn) (b4 : U we) :
    Calls Tryz.prog 36 #[cronV mi ho da mn we ad aw] w fun e w' => e = .returned (.int .i64 (chkE mi ho da mn we ad aw)) ∧ Below w.heap.size w w' := by
  have HB : Hid (U mi ∧ U ho ∧ U da ∧ U mn ∧ U we) := ⟨b0, b1, b2, b3, b4⟩
  clear b0 b1 b2 b3 b4
  go_enter Tryz.func36, Tryz.ntmps36
  go_wp2_with (go_at_call 53; (with_reducible refine (rsets_any _ _ _ _ _ _ _ _).mono ?_); rintro e w1 ⟨p, q, r, rfl, hp, hq, hr, hP, hQ, hR, hb1⟩; have hL : Hid (Laid3 mi ho da mn we ad aw p q r w w1) := ⟨hp, hq, hr, hP, hQ, hR, (balloc _).trans (hb1.mono (by simp))⟩; clear hp hq hr hP hQ hR hb1)
  go_loopw [6] (fun i wr => ∃ k : Nat, k ≤ 5 ∧ i = .int .i64 k ∧ (∀ j, j < k → okK mi ho da mn we ad aw j = true) ∧ Laid3 mi ho da mn we ad aw p q r w wr) (fun i _ => (5 - intOf i).toNat)
  case atStart => exact ⟨0, by omega, rfl, fun j hj => absurd hj (by omega), hL.out⟩
  case round =>
    clear hL
    obtain ⟨k, hk, rfl, hOK0, hL0⟩ := hrel
    have hOK : Hid (∀ j, j < k → okK mi ho da mn we ad aw j = true) := hOK0
    have hL : Hid (Laid3 mi ho da mn we ad aw p q r w wr) := hL0
    clear hOK0 hL0
    have hk5 : k = 0 ∨ k = 1 ∨ k = 2 ∨ k = 3 ∨ k = 4 ∨ k = 5 := by omega
    rcases hk5 with rfl | rfl | rfl | rfl | rfl | rfl
    · have hS : U mi := HB.out.1
      have hF : 0 ≤ fMin ∧ fMin ≤ 18446744073709551615 := by decide
      have HS : Hid (U mi) := hS
      clear hF hS
      go_wp2
      go_loopw [7, 8, 9] (fun u v n wr => ScanR mi 0 59 mi ho da mn we ad aw p q r w u v n wr) (fun _ _ n _ => (64 - intOf n).toNat)
      case atStart => exact ⟨false, true, 0, rfl, rfl, rfl, by omega, by omega, scan_0 _ _ _, hL.out⟩
      case round =>
        clear hL
        obtain ⟨u, v, m, rfl, rfl, rfl, hm0, hm1, hSc0, hL0⟩ := hrel
        have hSc : Hid (Scan mi 0 59 m u v) := hSc0
        have hL : Hid (Laid3 mi ho da mn we ad aw p q r w wr) := hL0
        obtain ⟨hp, hq, hr, hP, hQ, hR, hb⟩ := hL0
        clear hSc0 hb
        by_cases hlt : m < 64
        · cases hx : inS mi m <;> cases hy : decide ((0 : Int) ≤ m ∧ m ≤ 59)
          case true.false =>
            have cH := has_dec HS.out hx
            have cI := in_dec hy
            have HE : Hid (okK mi ho da mn we ad aw 0 = false) := scan_bad HS.out (by decide) full_min hx hy
            clear hx hy
            go_wp2
            go_quiet (first | (go_at_call 9; with_reducible refine Calls.quiet_of_same (cI _)))
            go_wp2_with (go_at_call 54; (with_reducible refine (cH _).mono ?_); rintro e w' ⟨rfl, rfl⟩)
            go_ret
            exact ⟨Civ.ret_int (chkE_bad 0 HE.out), (laid_drewN hL.out _).2.2.2.2.2.2⟩
          all_goals
            have cH := has_dec HS.out hx
            have cI := in_dec hy
            have HX : Hid (inS mi m = _) := hx
            have HY : Hid (decide ((0 : Int) ≤ m ∧ m ≤ 59) = _) := hy
            clear hx hy
            cases u <;> cases v
            all_goals
              go_wp2
              go_quiet (first | (go_at_call 9; with_reducible refine Calls.quiet_of_same (cI _)))
              go_wp2_with (go_at_call 54; (with_reducible refine (cH _).mono ?_); rintro e w' ⟨rfl, rfl⟩)
              refine ⟨?_, ?measure⟩
              (repeat apply Exists.intro)
              refine ⟨?rel, rfl⟩
              case rel => exact ⟨_, _, m + 1, rfl, rfl, rfl, by omega, by omega, scan_step hSc.out HX.out HY.out rfl, laid_drewN hL.out _⟩
              case measure => simp [intOf]; omega
        · obtain rfl : m = 64 := by omega
          have HE : Hid (okK mi ho da mn we ad aw 0 = !(!u || (false && !v))) := scan_end HS.out (by decide) full_min (by decide) (by decide) hSc.out
          cases u <;> cases v <;> skip
          all_goals
            go_wp2
            first
              | (go_ret; exact ⟨Civ.ret_int (chkE_bad 0 HE.out), hL.out.2.2.2.2.2.2⟩)
              | (go_roundw
                 case rel => exact ⟨0 + 1, by omega, rfl, ok_step hOK.out HE.out, hL.out⟩
                 case measure => simp [intOf])
    · have hS : U ho := HB.out.2.1
      have hF : 0 ≤ fHour ∧ fHour ≤ 18446744073709551615 := by decide
      have HS : Hid (U ho) := hS
      clear hF hS
      go_wp2
      go_loopw [7, 8, 9] (fun u v n wr => ScanR ho 0 23 mi ho da mn we ad aw p q r w u v n wr) (fun _ _ n _ => (64 - intOf n).toNat)
      case atStart => exact ⟨false, true, 0, rfl, rfl, rfl, by omega, by omega, scan_0 _ _ _, hL.out⟩
      case round =>
        clear hL
        obtain ⟨u, v, m, rfl, rfl, rfl, hm0, hm1, hSc0, hL0⟩ := hrel
        have hSc : Hid (Scan ho 0 23 m u v) := hSc0
        have hL : Hid (Laid3 mi ho da mn we ad aw p q r w wr) := hL0
        obtain ⟨hp, hq, hr, hP, hQ, hR, hb⟩ := hL0
        clear hSc0 hb
        by_cases hlt : m < 64
        · cases hx : inS ho m <;> cases hy : decide ((0 : Int) ≤ m ∧ m ≤ 23)
          case true.false =>
            have cH := has_dec HS.out hx
            have cI := in_dec hy
            have HE : Hid (okK mi ho da mn we ad aw 1 = false) := scan_bad HS.out (by decide) full_hour hx hy
            clear hx hy
            go_wp2
            go_quiet (first | (go_at_call 9; with_reducible refine Calls.quiet_of_same (cI _)))
            go_wp2_with (go_at_call 54; (with_reducible refine (cH _).mono ?_); rintro e w' ⟨rfl, rfl⟩)
            go_ret
            exact ⟨Civ.ret_int (chkE_bad 1 HE.out), (laid_drewN hL.out _).2.2.2.2.2.2⟩
          all_goals
            have cH := has_dec HS.out hx
            have cI := in_dec hy
            have HX : Hid (inS ho m = _) := hx
            have HY : Hid (decide ((0 : Int) ≤ m ∧ m ≤ 23) = _) := hy
            clear hx hy
            cases u <;> cases v
            all_goals
              go_wp2
              go_quiet (first | (go_at_call 9; with_reducible refine Calls.quiet_of_same (cI _)))
              go_wp2_with (go_at_call 54; (with_reducible refine (cH _).mono ?_); rintro e w' ⟨rfl, rfl⟩)
              refine ⟨?_, ?measure⟩
              (repeat apply Exists.intro)
              refine ⟨?rel, rfl⟩
              case rel => exact ⟨_, _, m + 1, rfl, rfl, rfl, by omega, by omega, scan_step hSc.out HX.out HY.out rfl, laid_drewN hL.out _⟩
              case measure => simp [intOf]; omega
        · obtain rfl : m = 64 := by omega
          have HE : Hid (okK mi ho da mn we ad aw 1 = !(!u || (false && !v))) := scan_end HS.out (by decide) full_hour (by decide) (by decide) hSc.out
          cases u <;> cases v <;> skip
          all_goals
            go_wp2
            first
              | (go_ret; exact ⟨Civ.ret_int (chkE_bad 1 HE.out), hL.out.2.2.2.2.2.2⟩)
              | (go_roundw
                 case rel => exact ⟨1 + 1, by omega, rfl, ok_step hOK.out HE.out, hL.out⟩
                 case measure => simp [intOf])
    · have hS : U da := HB.out.2.2.1
      have hF : 0 ≤ fDay ∧ fDay ≤ 18446744073709551615 := by decide
      have HS : Hid (U da) := hS
      clear hF hS
      go_wp2
      go_loopw [7, 8, 9] (fun u v n wr => ScanR da 1 31 mi ho da mn we ad aw p q r w u v n wr) (fun _ _ n _ => (64 - intOf n).toNat)
      case atStart => exact ⟨false, true, 0, rfl, rfl, rfl, by omega, by omega, scan_0 _ _ _, hL.out⟩
      case round =>
        clear hL
        obtain ⟨u, v, m, rfl, rfl, rfl, hm0, hm1, hSc0, hL0⟩ := hrel
        have hSc : Hid (Scan da 1 31 m u v) := hSc0
        have hL : Hid (Laid3 mi ho da mn we ad aw p q r w wr) := hL0
        obtain ⟨hp, hq, hr, hP, hQ, hR, hb⟩ := hL0
        clear hSc0 hb
        by_cases hlt : m < 64
        · cases hx : inS da m <;> cases hy : decide ((1 : Int) ≤ m ∧ m ≤ 31)
          case true.false =>
            have cH := has_dec HS.out hx
            have cI := in_dec hy
            have HE : Hid (okK mi ho da mn we ad aw 2 = false) := scan_bad HS.out (by decide) full_day hx hy
            clear hx hy
            go_wp2
            go_quiet (first | (go_at_call 9; with_reducible refine Calls.quiet_of_same (cI _)))
            go_wp2_with (go_at_call 54; (with_reducible refine (cH _).mono ?_); rintro e w' ⟨rfl, rfl⟩)
            go_ret
            exact ⟨Civ.ret_int (chkE_bad 2 HE.out), (laid_drewN hL.out _).2.2.2.2.2.2⟩
          all_goals
            have cH := has_dec HS.out hx
            have cI := in_dec hy
            have HX : Hid (inS da m = _) := hx
            have HY : Hid (decide ((1 : Int) ≤ m ∧ m ≤ 31) = _) := hy
            clear hx hy
            cases u <;> cases v
            all_goals
              go_wp2
              go_quiet (first | (go_at_call 9; with_reducible refine Calls.quiet_of_same (cI _)))
              go_wp2_with (go_at_call 54; (with_reducible refine (cH _).mono ?_); rintro e w' ⟨rfl, rfl⟩)
              refine ⟨?_, ?measure⟩
              (repeat apply Exists.intro)
              refine ⟨?rel, rfl⟩
              case rel => exact ⟨_, _, m + 1, rfl, rfl, rfl, by omega, by omega, scan_step hSc.out HX.out HY.out rfl, laid_drewN hL.out _⟩
              case measure => simp [intOf]; omega
        · obtain rfl : m = 64 := by omega
          have HE : Hid (okK mi ho da mn we ad aw 2 = !(!u || (ad && !v))) := scan_end HS.out (by decide) full_day (by decide) (by decide) hSc.out
          cases u <;> cases v <;> (cases ad <;> skip)
          all_goals
            go_wp2
            first
              | (go_ret; exact ⟨Civ.ret_int (chkE_bad 2 HE.out), hL.out.2.2.2.2.2.2⟩)
              | (go_roundw
                 case rel => exact ⟨2 + 1, by omega, rfl, ok_step hOK.out HE.out, hL.out⟩
                 case measure => simp [intOf])
    · have hS : U mn := HB.out.2.2.2.1
      have hF : 0 ≤ fMon ∧ fMon ≤ 18446744073709551615 := by decide
      have HS : Hid (U mn) := hS
      clear hF hS
      go_wp2
      go_loopw [7, 8, 9] (fun u v n wr => ScanR mn 1 12 mi ho da mn we ad aw p q r w u v n wr) (fun _ _ n _ => (64 - intOf n).toNat)
      case atStart => exact ⟨false, true, 0, rfl, rfl, rfl, by omega, by omega, scan_0 _ _ _, hL.out⟩
      case round =>
        clear hL
        obtain ⟨u, v, m, rfl, rfl, rfl, hm0, hm1, hSc0, hL0⟩ := hrel
        have hSc : Hid (Scan mn 1 12 m u v) := hSc0
        have hL : Hid (Laid3 mi ho da mn we ad aw p q r w wr) := hL0
        obtain ⟨hp, hq, hr, hP, hQ, hR, hb⟩ := hL0
        clear hSc0 hb
        by_cases hlt : m < 64
        · cases hx : inS mn m <;> cases hy : decide ((1 : Int) ≤ m ∧ m ≤ 12)
          case true.false =>
            have cH := has_dec HS.out hx
            have cI := in_dec hy
            have HE : Hid (okK mi ho da mn we ad aw 3 = false) := scan_bad HS.out (by decide) full_mon hx hy
            clear hx hy
            go_wp2
            go_quiet (first | (go_at_call 9; with_reducible refine Calls.quiet_of_same (cI _)))
            go_wp2_with (go_at_call 54; (with_reducible refine (cH _).mono ?_); rintro e w' ⟨rfl, rfl⟩)
            go_ret
            exact ⟨Civ.ret_int (chkE_bad 3 HE.out), (laid_drewN hL.out _).2.2.2.2.2.2⟩
          all_goals
            have cH := has_dec HS.out hx
            have cI := in_dec hy
            have HX : Hid (inS mn m = _) := hx
            have HY : Hid (decide ((1 : Int) ≤ m ∧ m ≤ 12) = _) := hy
            clear hx hy
            cases u <;> cases v
            all_goals
              go_wp2
              go_quiet (first | (go_at_call 9; with_reducible refine Calls.quiet_of_same (cI _)))
              go_wp2_with (go_at_call 54; (with_reducible refine (cH _).mono ?_); rintro e w' ⟨rfl, rfl⟩)
              refine ⟨?_, ?measure⟩
              (repeat apply Exists.intro)
              refine ⟨?rel, rfl⟩
              case rel => exact ⟨_, _, m + 1, rfl, rfl, rfl, by omega, by omega, scan_step hSc.out HX.out HY.out rfl, laid_drewN hL.out _⟩
              case measure => simp [intOf]; omega
        · obtain rfl : m = 64 := by omega
          have HE : Hid (okK mi ho da mn we ad aw 3 = !(!u || (false && !v))) := scan_end HS.out (by decide) full_mon (by decide) (by decide) hSc.out
          cases u <;> cases v <;> skip
          all_goals
            go_wp2
            first
              | (go_ret; exact ⟨Civ.ret_int (chkE_bad 3 HE.out), hL.out.2.2.2.2.2.2⟩)
              | (go_roundw
                 case rel => exact ⟨3 + 1, by omega, rfl, ok_step hOK.out HE.out, hL.out⟩
                 case measure => simp [intOf])
    · have hS : U we := HB.out.2.2.2.2
      have hF : 0 ≤ fWeek ∧ fWeek ≤ 18446744073709551615 := by decide
      have HS : Hid (U we) := hS
      clear hF hS
      go_wp2
      go_loopw [7, 8, 9] (fun u v n wr => ScanR we 0 6 mi ho da mn we ad aw p q r w u v n wr) (fun _ _ n _ => (64 - intOf n).toNat)
      case atStart => exact ⟨false, true, 0, rfl, rfl, rfl, by omega, by omega, scan_0 _ _ _, hL.out⟩
      case round =>
        clear hL
        obtain ⟨u, v, m, rfl, rfl, rfl, hm0, hm1, hSc0, hL0⟩ := hrel
        have hSc : Hid (Scan we 0 6 m u v) := hSc0
        have hL : Hid (Laid3 mi ho da mn we ad aw p q r w wr) := hL0
        obtain ⟨hp, hq, hr, hP, hQ, hR, hb⟩ := hL0
        clear hSc0 hb
        by_cases hlt : m < 64
        · cases hx : inS we m <;> cases hy : decide ((0 : Int) ≤ m ∧ m ≤ 6)
          case true.false =>
            have cH := has_dec HS.out hx
            have cI := in_dec hy
            have HE : Hid (okK mi ho da mn we ad aw 4 = false) := scan_bad HS.out (by decide) full_week hx hy
            clear hx hy
            go_wp2
            go_quiet (first | (go_at_call 9; with_reducible refine Calls.quiet_of_same (cI _)))
            go_wp2_with (go_at_call 54; (with_reducible refine (cH _).mono ?_); rintro e w' ⟨rfl, rfl⟩)
            go_ret
            exact ⟨Civ.ret_int (chkE_bad 4 HE.out), (laid_drewN hL.out _).2.2.2.2.2.2⟩
          all_goals
            have cH := has_dec HS.out hx
            have cI := in_dec hy
            have HX : Hid (inS we m = _) := hx
            have HY : Hid (decide ((0 : Int) ≤ m ∧ m ≤ 6) = _) := hy
            clear hx hy
            cases u <;> cases v
            all_goals
              go_wp2
              go_quiet (first | (go_at_call 9; with_reducible refine Calls.quiet_of_same (cI _)))
              go_wp2_with (go_at_call 54; (with_reducible refine (cH _).mono ?_); rintro e w' ⟨rfl, rfl⟩)
              refine ⟨?_, ?measure⟩
              (repeat apply Exists.intro)
              refine ⟨?rel, rfl⟩
              case rel => exact ⟨_, _, m + 1, rfl, rfl, rfl, by omega, by omega, scan_step hSc.out HX.out HY.out rfl, laid_drewN hL.out _⟩
              case measure => simp [intOf]; omega
        · obtain rfl : m = 64 := by omega
          have HE : Hid (okK mi ho da mn we ad aw 4 = !(!u || (aw && !v))) := scan_end HS.out (by decide) full_week (by decide) (by decide) hSc.out
          cases u <;> cases v <;> (cases aw <;> skip)
          all_goals
            go_wp2
            first
              | (go_ret; exact ⟨Civ.ret_int (chkE_bad 4 HE.out), hL.out.2.2.2.2.2.2⟩)
              | (go_roundw
                 case rel => exact ⟨4 + 1, by omega, rfl, ok_step hOK.out HE.out, hL.out⟩
                 case measure => simp [intOf])
    · go_wp2
      go_ret
      exact ⟨Civ.ret_int (chkE_good hOK.out), hL.out.2.2.2.2.2.2⟩
end RCrn
end Go.Proofs.YtbnnplfmhmmbnacGreatDoor
namespace Go.Proofs.YtbnnplfmhmmbnacGreatDoor
namespace RCrn
open Go.RowKit Lai Civ Cal Crn RCiv Rst
set_option maxRecDepth 8000

section
variable (a b : K) (w : World)
theorem rcronK (u : Us a) (r : Int) (h : (if kc a = true then 0 else 1) = r) : Calls Tryz.prog 36 #[kV a] w fun e w' => e = .returned (.int .i64 r) ∧ Below w.heap.size w w' := by
  have := rcron_any a.mi a.ho a.da a.mn a.we a.ad a.aw w u.u0 u.u1 u.u2 u.u3 u.u4
  rwa [show chkE a.mi a.ho a.da a.mn a.we a.ad a.aw = r from h] at this

set_option maxHeartbeats 2000000 in
theorem rspan_yes (ua : Us a) (ub : Us b) (ha : kc a = true) (hb : kc b = true) :
    Calls Tryz.prog 17 #[spanV a b] w fun e w' => e = .returned (.int .i64 0) ∧ Below w.heap.size w w' := by
  have c1 := fun w => rcronK a w ua 0 (by rw [ha]; rfl)
  have c2 := fun w => rcronK b w ub 0 (by rw [hb]; rfl)
  clear ha hb ua ub
  go_enter Tryz.func17, Tryz.ntmps17
  go_wp2_with (first
    | (go_at_call 36; (with_reducible refine (c1 _).mono ?_); rintro e w1 ⟨rfl, hb1⟩; have hw1 : Hid (Below w.heap.size w w1) := (balloc _).trans (hb1.mono (by simp)); obtain ⟨hc1, hf1⟩ := bcell hb1)
    | (go_at_call 36; (with_reducible refine (c2 _).mono ?_); rintro e w2 ⟨rfl, hb2⟩))
  go_ret
  exact ⟨rfl, bstep hw1 hb2⟩
set_option maxHeartbeats 2000000 in
theorem rspan_no (ua : Us a) (ub : Us b) (h : kc a = false ∨ kc b = false) :
    Calls Tryz.prog 17 #[spanV a b] w fun e w' => e = .returned (.int .i64 1) ∧ Below w.heap.size w w' := by
  cases ha : kc a
  · have c1 := fun w => rcronK a w ua 1 (by rw [ha]; rfl)
    clear ha h ua ub
    go_enter Tryz.func17, Tryz.ntmps17
    go_wp2_with (first
      | (go_at_call 36; (with_reducible refine (c1 _).mono ?_); rintro e w1 ⟨rfl, hb1⟩; have hw1 : Hid (Below w.heap.size w w1) := (balloc _).trans (hb1.mono (by simp))))
    go_ret
    exact ⟨rfl, hw1⟩
  · have hb : kc b = false := by rcases h with h | h; (rw [ha] at h; cases h); exact h
    have c1 := fun w => rcronK a w ua 0 (by rw [ha]; rfl)
    have c2 := fun w => rcronK b w ub 1 (by rw [hb]; rfl)
    clear ha hb h ua ub
    go_enter Tryz.func17, Tryz.ntmps17
    go_wp2_with (first
      | (go_at_call 36; (with_reducible refine (c1 _).mono ?_); rintro e w1 ⟨rfl, hb1⟩; have hw1 : Hid (Below w.heap.size w w1) := (balloc _).trans (hb1.mono (by simp)); obtain ⟨hc1, hf1⟩ := bcell hb1)
      | (go_at_call 36; (with_reducible refine (c2 _).mono ?_); rintro e w2 ⟨rfl, hb2⟩))
    go_ret
    exact ⟨rfl, bstep hw1 hb2⟩
end
end RCrn
end Go.Proofs.YtbnnplfmhmmbnacGreatDoor
