/- The law CronOr, walked: numbers that there are not. -/
import Derived.Test.YtjafcaabbfojkaeDoorCronOrWalks
namespace Go.Proofs.YtjafcaabbfojkaeDoor
namespace Crn
open Go.RowKit Lai Civ
set_option maxRecDepth 8000

set_option maxHeartbeats 8000000 in
theorem fst_out (mi ho da mo we : Int) (y m d h i s k : Int) (w : World) (hB : BdsAt w) (hc : chkB mi ho da mo we false false = true)
    (b0 : U mi) (b1 : U ho) (b2 : U da) (b3 : U mo) (b4 : U we) (bm : I m) (bd : I d) (bh : I h) (bi : I i) (bk : I k) (g : ¬ ((0 ≤ k ∧ k ≤ 6) ∧ (1 ≤ d ∧ d ≤ 31))) :
    Calls Tryd.prog 6 #[cronV mi ho da mo we false false, civ y m d h i s k] w fun e w' => e = .returned (.bool true) ∧ Below w.heap.size w w' := by
  have c1 := fun w hB => match_yes mi ho da mo we _ _ y m d h i s k w hB hc b0 b1 b2 b3 b4 bm bd bh bi bk
  generalize mtB mi ho da mo we false false m d h i k = X at c1
  go_enter Tryd.func6, Tryd.ntmps6
  go_wp2_with (first
    | (go_at_call 8; with_reducible refine (daily_c _).mono ?_; rintro e w1 ⟨rfl, hb1⟩; have hB1 : BdsAt w1 := (bdsA (bdsA hB)).below hb1 (Nat.le_refl _); obtain ⟨hc1, hf1⟩ := bcell hb1; have hz1 : w.heap.size < w1.heap.size := (by have := hb1.size; simp at this; omega); have hz2 : w.heap.size + 1 < w1.heap.size := (by have := hb1.size; simp at this; omega))
    | (go_at_call 12; with_reducible refine (match_c _ hB1).mono ?_; rintro e w2 ⟨rfl, hb2⟩; have hB2 : BdsAt w2 := hB1.below hb2 (Nat.le_refl _); obtain ⟨hc2, hf2⟩ := bcell hb2; have hz3 : w.heap.size < w2.heap.size := (by have := hb2.size; omega); have hz4 : w.heap.size + 1 < w2.heap.size := (by have := hb2.size; omega))
    | (go_at_call 12; with_reducible refine (c1 _ hB2).mono ?_; rintro e w3 ⟨rfl, hb3⟩; have hB3 : BdsAt w3 := hB2.below hb3 (Nat.le_refl _); obtain ⟨hc3, hf3⟩ := bcell hb3; have hz5 : w.heap.size < w3.heap.size := (by have := hb3.size; omega); have hz6 : w.heap.size + 1 < w3.heap.size := (by have := hb3.size; omega)))
  have hw3 : Hid (Below w.heap.size w w3) := bstep (bstep (ballocs hb1) hb2) hb3
  have HC : ∀ o, w3.cell? ⟨w.heap.size, o, none⟩ = (#[Value.int .u64 mi, .int .u64 ho, .int .u64 da, .int .u64 mo, .int .u64 we, .bool false, .bool false])[o]? := fun o => by rw [hc3 _ _ hz3, hc2 _ _ hz1, hc1 _ _ (by simp; try omega)]; simp
  have HD : ∀ o, w3.cell? ⟨w.heap.size + 1, o, none⟩ = (#[Value.int .i64 y, .int .i64 m, .int .i64 d, .int .i64 h, .int .i64 i, .int .i64 s, .int .i64 k])[o]? := fun o => by rw [hc3 _ _ hz4, hc2 _ _ hz2, hc1 _ _ (by simp; try omega)]; simp
  clear hc1 hc2 hc3 hf1 hf2 hf3 hB1 hB2 hz1 hz2 hz3 hz4 hb1 hb2 hb3
  go_region
  all_goals
    go_wp2_with (go_at_call 12; exfalso; omega)
    all_goals
      go_ret
      exact ⟨rfl, hw3.trans (((balloc2 _ _).drew).mono (by omega))⟩
end Crn
end Go.Proofs.YtjafcaabbfojkaeDoor
