/- The law CronNext: what its calls answer. -/
import Derived.Test.YtjafcaabbfojkaeDoorCronFaces
import Derived.Test.YtjafcaabbfojkaeDoorCronOrWalks
namespace Go.Proofs.YtjafcaabbfojkaeDoor
namespace Crn
open Go.RowKit Lai Civ Cal
set_option maxRecDepth 8000

theorem fit_full (x : Int) : fitN 4294967294 8190 127 true true x = true := by
  obtain ⟨d1, d2, d3, d4, _⟩ := date_spec x
  have db := dim_bd (yr x) (Cal.mo x)
  unfold fitN dayB
  have e1 : inS 8190 (Cal.mo x) = true := by
    obtain ⟨M, hM⟩ := Int.eq_ofNat_of_zero_le (show 0 ≤ Cal.mo x by omega)
    rw [hM, (full_in M).2.2.2.1, decide_eq_true_eq]; omega
  have e2 : inS 4294967294 (dy x) = true := by rw [day_in, decide_eq_true_eq]; omega
  have e3 : inS 127 ((x + 6) % 7) = true := by
    obtain ⟨M, hM⟩ := Int.eq_ofNat_of_zero_le (show 0 ≤ (x + 6) % 7 by omega)
    rw [hM, (full_in M).2.2.2.2, decide_eq_true_eq]; omega
  rw [e1, e2, e3]; rfl

theorem next_c (w : World) (hB : BdsAt w) (hT : TabIs64 w) : Calls Tryd.prog 10 #[cronV 1073741824 64 4294967294 8190 127 true true, .int .i64 0, .int .i64 0] w fun e w' => e = .returned (.tuple #[.int .i64 23400, .bool true, .int .i64 0]) ∧ Below w.heap.size w w' := by
  have b0 : U 1073741824 := by unfold U; omega
  have b1 : U 64 := by unfold U; omega
  have b2 : U 4294967294 := by unfold U; omega
  have b3 : U 8190 := by unfold U; omega
  have b4 : U 127 := by unfold U; omega
  have hc : chkB 1073741824 64 4294967294 8190 127 true true = true := by decide
  have G := good_of b0 b1 b2 b3 b4 hc
  refine (next_yes 1073741824 64 4294967294 8190 127 true true 0 0 w hB hT b0 b1 b2 b3 b4 hc (by decide) (by decide)).mono fun e w' ⟨n, ok, he, hn, hb⟩ => ?_
  have hm : minOf 0 0 = 3139917120 := by decide
  rw [hm] at hn
  have hF := next_today (ad := true) (aw := true) (U := 3139917120) (h := 0) (m := 0) G (by omega) (by omega) (by decide) (fit_full _) (by decide)
  have hx : mf 1073741824 64 0 (0 + 1) = 390 := by decide
  rw [hx] at hF
  obtain ⟨rfl, rfl⟩ := next_one hn (Or.inl ⟨rfl, _, rfl, by decide, hF⟩)
  exact ⟨he, hb⟩

section
variable (mi ho da mn we : Int) (ad aw : Bool) (shift : Int)
theorem at_sc (u shift : Int) : sc (at60 u shift) shift = u * 60 := by unfold sc at60; omega
theorem of_at (u : Int) (w : World) (hs : shB shift = true) (hi : inT (at60 u shift) = true) :
    Calls Tryd.prog 11 #[.int .i64 (at60 u shift), .int .i64 shift] w fun e w' => e = .returned (.tuple #[civ (yr (u / 1440)) (Cal.mo (u / 1440)) (dy (u / 1440)) (u % 1440 / 60) (u % 60) 0 ((u / 1440 + 6) % 7), .int .i64 0]) ∧ Below w.heap.size w w' := by
  have := of_yes (at60 u shift) shift w hi hs
  rw [at_sc] at this
  rwa [show ofv (u * 60) = civ (yr (u / 1440)) (Cal.mo (u / 1440)) (dy (u / 1440)) (u % 1440 / 60) (u % 60) 0 ((u / 1440 + 6) % 7) by
    unfold ofv
    rw [show u * 60 / 86400 = u / 1440 by omega, show u * 60 % 86400 / 3600 = u % 1440 / 60 by omega, show u * 60 % 3600 / 60 = u % 60 by omega, show u * 60 % 60 = 0 by omega]] at this
theorem match_at (u : Int) (w : World) (hB : BdsAt w) (b0 : U mi) (b1 : U ho) (b2 : U da) (b3 : U mn) (b4 : U we) (hc : chkB mi ho da mn we ad aw = true) (hu : mtN mi ho da mn we ad aw u = true) :
    Calls Tryd.prog 12 #[cronV mi ho da mn we ad aw, civ (yr (u / 1440)) (Cal.mo (u / 1440)) (dy (u / 1440)) (u % 1440 / 60) (u % 60) 0 ((u / 1440 + 6) % 7)] w fun e w' => e = .returned (.tuple #[.bool true, .int .i64 0]) ∧ Below w.heap.size w w' := by
  obtain ⟨d1, d2, d3, d4, _⟩ := date_spec (u / 1440)
  have db := dim_bd (yr (u / 1440)) (Cal.mo (u / 1440))
  have := match_yes mi ho da mn we ad aw (yr (u / 1440)) (Cal.mo (u / 1440)) (dy (u / 1440)) (u % 1440 / 60) (u % 60) 0 ((u / 1440 + 6) % 7) w hB hc b0 b1 b2 b3 b4 (by unfold I; omega) (by unfold I; omega) (by unfold I; omega) (by unfold I; omega) (by unfold I; omega)
  rwa [show mtB mi ho da mn we ad aw (Cal.mo (u / 1440)) (dy (u / 1440)) (u % 1440 / 60) (u % 60) ((u / 1440 + 6) % 7) = true by rw [show u % 60 = u % 1440 % 60 by omega]; exact hu] at this
theorem last_at (u : Int) (w : World) (hB : BdsAt w) (b0 : U mi) (b1 : U ho) (b2 : U da) (b3 : U mn) (b4 : U we) (hc : chkB mi ho da mn we ad aw = true) (hs : shB shift = true) (hi : inT (at60 u shift) = true) (hu : mtN mi ho da mn we ad aw u = true) :
    Calls Tryd.prog 13 #[cronV mi ho da mn we ad aw, .int .i64 (at60 u shift), .int .i64 shift] w fun e w' => e = .returned (.tuple #[.int .i64 (at60 u shift), .bool true, .int .i64 0]) ∧ Below w.heap.size w w' := by
  refine (last_yes mi ho da mn we ad aw (at60 u shift) shift w hB b0 b1 b2 b3 b4 hc hi hs).mono fun e w' ⟨n, ok, he, hn, hb⟩ => ?_
  have hm : minOf (at60 u shift) shift = u := by unfold minOf; rw [at_sc]; omega
  rw [hm] at hn
  obtain ⟨rfl, rfl⟩ := lasts_one hn (Or.inl ⟨rfl, u, rfl, hi, ⟨by omega, by omega, hu, fun v g1 g2 => absurd g1 (by omega)⟩⟩)
  exact ⟨he, hb⟩
theorem last_before (u sec : Int) (w : World) (hB : BdsAt w) (b0 : U mi) (b1 : U ho) (b2 : U da) (b3 : U mn) (b4 : U we) (hc : chkB mi ho da mn we ad aw = true) (hs : shB shift = true) (ht : tmB sec = true) (hi : inT (at60 u shift) = true) (hF : FirstN mi ho da mn we ad aw (minOf sec shift) u) :
    Calls Tryd.prog 13 #[cronV mi ho da mn we ad aw, .int .i64 (at60 u shift - 1), .int .i64 shift] w fun e w' => ∃ l was, e = .returned (.tuple #[.int .i64 l, .bool was, .int .i64 0]) ∧ (was = true → l ≤ sec) ∧ Below w.heap.size w w' := by
  have h1 := (tm_iff _).1 ht
  have h3 := (tm_iff _).1 (show tmB (at60 u shift) = true from hi)
  have hlt : sec < at60 u shift := by
    have := hF.1
    unfold minOf sc at this
    unfold at60; omega
  refine (last_yes mi ho da mn we ad aw (at60 u shift - 1) shift w hB b0 b1 b2 b3 b4 hc ((tm_iff _).2 (by omega)) hs).mono fun e w' ⟨n, ok, he, hn, hb⟩ => ⟨n, ok, he, fun hk => ?_, hb⟩
  have hm : minOf (at60 u shift - 1) shift = u - 1 := by unfold minOf sc at60; omega
  rw [hm] at hn
  rcases hn with ⟨_, v, rfl, _, hv⟩ | ⟨h, _⟩
  · by_cases g : minOf sec shift < v
    · have := hF.2.2.2 v g (by have := hv.1; omega)
      rw [hv.2.2.1] at this; cases this
    · unfold minOf sc at g; unfold at60; omega
  · rw [h] at hk; cases hk
end
end Crn
end Go.Proofs.YtjafcaabbfojkaeDoor
