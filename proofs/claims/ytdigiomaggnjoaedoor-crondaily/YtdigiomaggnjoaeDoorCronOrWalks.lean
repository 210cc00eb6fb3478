/- The law CronOr, walked: in three cases. -/
import Derived.Test.YtdigiomaggnjoaeDoorCronMatch2
namespace Go.Proofs.YtdigiomaggnjoaeDoor
namespace Crn
open Go.RowKit Lai Civ
set_option maxRecDepth 8000

theorem daily_c (w : World) : Calls Tryd.prog 10 #[.int .i64 6, .int .i64 30] w fun e w' => e = .returned (cronV 1073741824 64 4294967294 8190 127 true true) ∧ Below w.heap.size w w' := by
  go_enter Tryd.func10, Tryd.ntmps10
  go_wp2
  go_region
  all_goals
  go_wp2
  refine bodyPost_ret (v := cronV 1073741824 64 4294967294 8190 127 true true) (by simp [results, Tryd.results10, go_sem]) rfl ⟨rfl, ?_⟩
  exact (balloc _).drew
theorem match_c (w : World) (hB : BdsAt w) : Calls Tryd.prog 14 #[cronV 1073741824 64 4294967294 8190 127 true true, civ 0 1 1 6 30 0 0] w fun e w' => e = .returned (.tuple #[.bool true, .int .i64 0]) ∧ Below w.heap.size w w' :=
  match_yes 1073741824 64 4294967294 8190 127 true true 0 1 1 6 30 0 0 w hB (by decide) (by unfold U; omega) (by unfold U; omega) (by unfold U; omega) (by unfold U; omega) (by unfold U; omega) (by unfold I; omega) (by unfold I; omega) (by unfold I; omega) (by unfold I; omega) (by unfold I; omega)

theorem in_day : ∀ n : Nat, n < 32 → 1 ≤ n → inS 4294967294 (n : Int) = true := by decide
theorem in_week : ∀ n : Nat, n < 7 → inS 127 (n : Int) = true := by decide
theorem or_law (mi ho da mo we m d h i k : Int) (hd : 1 ≤ d ∧ d ≤ 31) (hk : 0 ≤ k ∧ k ≤ 6) :
    mtB mi ho da mo we false false m d h i k = (mtB mi ho da mo 127 false true m d h i k || mtB mi ho 4294967294 mo we true false m d h i k) := by
  obtain ⟨D, rfl⟩ := Int.eq_ofNat_of_zero_le (show 0 ≤ d by omega)
  obtain ⟨K, rfl⟩ := Int.eq_ofNat_of_zero_le hk.1
  have e1 := in_day D (by omega) (by omega)
  have e2 := in_week K (by omega)
  unfold mtB dayB
  rw [e1, e2]
  generalize inS mo m = x; generalize inS da ↑D = y; generalize inS we ↑K = z; generalize inS ho h = u; generalize inS mi i = v
  revert x y z u v
  decide
theorem chk_a {mi ho da mo we : Int} (h : chkB mi ho da mo we false false = true) : chkB mi ho da mo 127 false true = true := by
  have : okB 127 fWeek true = true := by decide
  revert h; unfold chkB; rw [this]
  generalize okB mi fMin false = x; generalize okB ho fHour false = y; generalize okB da fDay false = z; generalize okB mo fMon false = u; generalize okB we fWeek false = v
  revert x y z u v; decide
theorem chk_b {mi ho da mo we : Int} (h : chkB mi ho da mo we false false = true) : chkB mi ho 4294967294 mo we true false = true := by
  have : okB 4294967294 fDay true = true := by decide
  revert h; unfold chkB; rw [this]
  generalize okB mi fMin false = x; generalize okB ho fHour false = y; generalize okB da fDay false = z; generalize okB mo fMon false = u; generalize okB we fWeek false = v
  revert x y z u v; decide
theorem bdsA {u : World} {o : Obj} (h : BdsAt u) : BdsAt (u.alloc o) := h.below (balloc o) (Nat.le_refl _)
theorem bdsD {u : World} (h : BdsAt u) : BdsAt u.drew := h

theorem ballocsD {w w1 : World} {o p : Obj} (h : Below ((w.alloc o).alloc p).drew.heap.size ((w.alloc o).alloc p).drew w1) : Below w.heap.size w w1 := ((balloc2 o p).drew).trans (h.mono (by simp; omega))

set_option maxHeartbeats 8000000 in
theorem fst_no (mi ho da mo we : Int) (ad aw : Bool) (y m d h i s k : Int) (w : World) (hB : BdsAt w) (hc : chkB mi ho da mo we ad aw = false) :
    Calls Tryd.prog 6 #[cronV mi ho da mo we ad aw, civ y m d h i s k] w fun e w' => e = .returned (.bool true) ∧ Below w.heap.size w w' := by
  go_enter Tryd.func6, Tryd.ntmps6
  go_wp2_with (first
    | (go_at_call 10; with_reducible refine (daily_c _).mono ?_; rintro e w1 ⟨rfl, hb1⟩; have hB1 : BdsAt w1 := (bdsA (bdsA hB)).below hb1 (Nat.le_refl _); obtain ⟨hc1, hf1⟩ := bcell hb1; have hz1 : w.heap.size < w1.heap.size := (by have := hb1.size; simp at this; omega); have hz2 : w.heap.size + 1 < w1.heap.size := (by have := hb1.size; simp at this; omega))
    | (go_at_call 14; with_reducible refine (match_c _ hB1).mono ?_; rintro e w2 ⟨rfl, hb2⟩; have hB2 : BdsAt w2 := hB1.below hb2 (Nat.le_refl _); obtain ⟨hc2, hf2⟩ := bcell hb2)
    | (go_at_call 14; with_reducible refine (match_no _ _ _ _ _ _ _ _ _ _ _ _ _ _ _ hB2 hc).mono ?_; rintro e w3 ⟨rfl, hb3⟩))
  go_ret
  exact ⟨rfl, bstep (bstep (ballocs hb1) hb2) hb3⟩

set_option maxHeartbeats 8000000 in
theorem fst_any (mi ho da mo we : Int) (ad aw : Bool) (y m d h i s k : Int) (w : World) (hB : BdsAt w) (hc : chkB mi ho da mo we ad aw = true) (hany : (ad || aw) = true)
    (b0 : U mi) (b1 : U ho) (b2 : U da) (b3 : U mo) (b4 : U we) (bm : I m) (bd : I d) (bh : I h) (bi : I i) (bk : I k) :
    Calls Tryd.prog 6 #[cronV mi ho da mo we ad aw, civ y m d h i s k] w fun e w' => e = .returned (.bool true) ∧ Below w.heap.size w w' := by
  cases ad <;> cases aw
  · cases hany
  all_goals
    have c1 := fun w hB => match_yes mi ho da mo we _ _ y m d h i s k w hB hc b0 b1 b2 b3 b4 bm bd bh bi bk
    clear hany
    generalize mtB mi ho da mo we _ _ m d h i k = R at c1
    cases R
    all_goals
      go_enter Tryd.func6, Tryd.ntmps6
      go_wp2_with (first
        | (go_at_call 10; with_reducible refine (daily_c _).mono ?_; rintro e w1 ⟨rfl, hb1⟩; have hB1 : BdsAt w1 := (bdsA (bdsA hB)).below hb1 (Nat.le_refl _); obtain ⟨hc1, hf1⟩ := bcell hb1; have hz1 : w.heap.size < w1.heap.size := (by have := hb1.size; simp at this; omega); have hz2 : w.heap.size + 1 < w1.heap.size := (by have := hb1.size; simp at this; omega))
        | (go_at_call 14; with_reducible refine (match_c _ hB1).mono ?_; rintro e w2 ⟨rfl, hb2⟩; have hB2 : BdsAt w2 := hB1.below hb2 (Nat.le_refl _); obtain ⟨hc2, hf2⟩ := bcell hb2; have hz3 : w.heap.size < w2.heap.size := (by have := hb2.size; omega); have hz4 : w.heap.size + 1 < w2.heap.size := (by have := hb2.size; omega))
        | (go_at_call 14; with_reducible refine (c1 _ hB2).mono ?_; rintro e w3 ⟨rfl, hb3⟩; obtain ⟨hc3, hf3⟩ := bcell hb3))
      go_ret
      exact ⟨rfl, bstep (bstep (ballocs hb1) hb2) hb3⟩

end Crn
end Go.Proofs.YtdigiomaggnjoaeDoor
