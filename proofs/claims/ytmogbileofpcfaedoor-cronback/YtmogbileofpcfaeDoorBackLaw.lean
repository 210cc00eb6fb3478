/- The law CronBack, walked. -/
import Derived.Test.YtmogbileofpcfaeDoorBackRead
namespace Go.Proofs.YtmogbileofpcfaeDoor
namespace Pie
open Go.RowKit Crn Lai Civ
set_option maxRecDepth 8000

theorem set7o {W : World} {B : Nat} {x0 x1 x2 x3 x4 x5 x6 : Value} (v0 v1 v2 v3 v4 v5 v6 : Value) (h : ∀ o, W.cell? ⟨B, o, none⟩ = (#[x0, x1, x2, x3, x4, x5, x6])[o]?) : ∀ o, (((((((W.setCell ⟨B, 0, none⟩ (v0)).setCell ⟨B, 1, none⟩ (v1)).setCell ⟨B, 2, none⟩ (v2)).setCell ⟨B, 3, none⟩ (v3)).setCell ⟨B, 4, none⟩ (v4)).setCell ⟨B, 5, none⟩ (v5)).setCell ⟨B, 6, none⟩ (v6)).cell? ⟨B, o, none⟩ = (#[v0, v1, v2, v3, v4, v5, v6])[o]? := by
  have t := set7c v0 v1 v2 v3 v4 v5 v6 (h 0) (h 1) (h 2) (h 3) (h 4) (h 5) (h 6)
  obtain ⟨t0, t1, t2, t3, t4, t5, t6⟩ := t
  intro o
  match o with
  | 0 => exact t0
  | 1 => exact t1
  | 2 => exact t2
  | 3 => exact t3
  | 4 => exact t4
  | 5 => exact t5
  | 6 => exact t6
  | o + 7 =>
    have n : ∀ k, k < 7 → (⟨B, k, none⟩ : Addr) ≠ ⟨B, o + 7, none⟩ := fun k hk e => by
      have := congrArg Addr.off e; simp at this; omega
    rw [World.cell?_setCell_other (h := n 6 (by decide)), World.cell?_setCell_other (h := n 5 (by decide)), World.cell?_setCell_other (h := n 4 (by decide)), World.cell?_setCell_other (h := n 3 (by decide)), World.cell?_setCell_other (h := n 2 (by decide)), World.cell?_setCell_other (h := n 1 (by decide)), World.cell?_setCell_other (h := n 0 (by decide)), h]
    simp
theorem daily_b (w : World) : Calls Tryd.prog 10 #[.int .i64 6, .int .i64 30] w fun e w' => e = .returned (cronV 1073741824 64 4294967294 8190 127 true true) ∧ Below w.heap.size w w' := by
  go_enter Tryd.func10, Tryd.ntmps10
  go_wp2
  go_region
  all_goals
  go_wp2
  refine bodyPost_ret (v := cronV 1073741824 64 4294967294 8190 127 true true) (by simp [results, Tryd.results10, go_sem]) rfl ⟨rfl, ?_⟩
  exact ((Below.refl _ _).alloc (Nat.le_refl _) _).drew
set_option maxHeartbeats 16000000 in
theorem back_nn (mi ho da mn we : Int) (ad aw : Bool) (s : List UInt8) (w : World) (hB : BdsAt w) (hT : TabIs64 w) (hc : chkB mi ho da mn we ad aw = false) (E : Int) (hE : E = 2 ∨ E = 3) (cQ2 : ∀ w, BdsAt w → Calls Tryd.prog 11 #[strV s] w fun e w' => e = .returned (.tuple #[cron0, .int .i64 E]) ∧ Below w.heap.size w w') :
    Calls Tryd.prog 3 #[cronV mi ho da mn we ad aw, strV s] w fun e w' => e = .returned (.bool true) ∧ Below w.heap.size w w' := by
  have cP0 := fun w hB hT => print_daily w hB hT
  have cP1 := fun w hB (_ : TabIs64 w) => print_no mi ho da mn we ad aw w hB hc
  clear hc
  obtain ⟨w0, hw⟩ : ∃ w0, w0 = w.alloc (.cells (#[Value.int .u64 mi, .int .u64 ho, .int .u64 da, .int .u64 mn, .int .u64 we, .bool ad, .bool aw]) 24) := ⟨_, rfl⟩
  have hC0 : ∀ o, w0.cell? ⟨w.heap.size, o, none⟩ = (#[Value.int .u64 mi, .int .u64 ho, .int .u64 da, .int .u64 mn, .int .u64 we, .bool ad, .bool aw])[o]? := fun o => by rw [hw]; simp
  have hF0 : ∀ o, w0.frozen? ⟨w.heap.size, o, none⟩ = false := fun o => by rw [hw]; simp
  have hz0 : w.heap.size < w0.heap.size := by rw [hw]; simp
  have hw0 : Below w.heap.size w w0 := by rw [hw]; exact (Below.refl _ _).alloc (Nat.le_refl _) _
  go_enter Tryd.func3, Tryd.ntmps3
  rcases hE with rfl | rfl
  · go_wp2_with (first
      | (go_at_call 10; rw [← hw]; (with_reducible refine (daily_b _).mono ?_); rintro e w1 ⟨rfl, hb1⟩; have hC1 := cells_on hC0 hb1 hz0; have hF1 := free_on hF0 hb1 hz0; have hz1 : w.heap.size < w1.heap.size := Nat.lt_of_lt_of_le hz0 hb1.size; have hw1 : Below w.heap.size w w1 := hw0.trans (hb1.mono hw0.size); have hB1 := hB.below hw1 (Nat.le_refl _); have hT1 := hT.below hw1 (Nat.le_refl _))
      | (go_at_call 9; (with_reducible refine (cP0 _ hB1 hT1).mono ?_); rintro e w2 ⟨rfl, hb2⟩; have hC2 := cells_on hC1 hb2 hz1; have hF2 := free_on hF1 hb2 hz1; have hz2 : w.heap.size < w2.heap.size := Nat.lt_of_lt_of_le hz1 hb2.size; have hw2 : Below w.heap.size w w2 := hw1.trans (hb2.mono hw1.size); have hB2 := hB.below hw2 (Nat.le_refl _); have hT2 := hT.below hw2 (Nat.le_refl _))
      | (go_at_call 9; (with_reducible refine (cP1 _ hB2 hT2).mono ?_); rintro e w3 ⟨rfl, hb3⟩; have hC3 := cells_on hC2 hb3 hz2; have hF3 := free_on hF2 hb3 hz2; have hz3 : w.heap.size < w3.heap.size := Nat.lt_of_lt_of_le hz2 hb3.size; have hw3 : Below w.heap.size w w3 := hw2.trans (hb3.mono hw2.size); have hB3 := hB.below hw3 (Nat.le_refl _); have hT3 := hT.below hw3 (Nat.le_refl _))
      | (go_at_call 11; (with_reducible refine (cQ2 _ hB3).mono ?_); rintro e w5 ⟨rfl, hb5⟩; have hC5 := cells_on (W := w3) (N := w.heap.size) (A := #[Value.int .u64 mi, .int .u64 ho, .int .u64 da, .int .u64 mn, .int .u64 we, .bool ad, .bool aw]) hC3 hb5 hz3; have hF5 := free_on (W := w3) (N := w.heap.size) hF3 hb5 hz3; have hw5 : Below w.heap.size w w5 := hw3.trans (hb5.mono hw3.size); have z5 : w.heap.size < w5.heap.size := Nat.lt_of_lt_of_le hz3 hb5.size; have f0 := hF5 0; have f1 := hF5 1; have f2 := hF5 2; have f3 := hF5 3; have f4 := hF5 4; have f5 := hF5 5; have f6 := hF5 6; have e0 := hC5 0; have e1 := hC5 1; have e2 := hC5 2; have e3 := hC5 3; have e4 := hC5 4; have e5 := hC5 5; have e6 := hC5 6))
    go_ret
    exact ⟨rfl, (((((((hw5.setCell (Nat.le_refl _) _).setCell (Nat.le_refl _) _).setCell (Nat.le_refl _) _).setCell (Nat.le_refl _) _).setCell (Nat.le_refl _) _).setCell (Nat.le_refl _) _).setCell (Nat.le_refl _) _)⟩
  · go_wp2_with (first
      | (go_at_call 10; rw [← hw]; (with_reducible refine (daily_b _).mono ?_); rintro e w1 ⟨rfl, hb1⟩; have hC1 := cells_on hC0 hb1 hz0; have hF1 := free_on hF0 hb1 hz0; have hz1 : w.heap.size < w1.heap.size := Nat.lt_of_lt_of_le hz0 hb1.size; have hw1 : Below w.heap.size w w1 := hw0.trans (hb1.mono hw0.size); have hB1 := hB.below hw1 (Nat.le_refl _); have hT1 := hT.below hw1 (Nat.le_refl _))
      | (go_at_call 9; (with_reducible refine (cP0 _ hB1 hT1).mono ?_); rintro e w2 ⟨rfl, hb2⟩; have hC2 := cells_on hC1 hb2 hz1; have hF2 := free_on hF1 hb2 hz1; have hz2 : w.heap.size < w2.heap.size := Nat.lt_of_lt_of_le hz1 hb2.size; have hw2 : Below w.heap.size w w2 := hw1.trans (hb2.mono hw1.size); have hB2 := hB.below hw2 (Nat.le_refl _); have hT2 := hT.below hw2 (Nat.le_refl _))
      | (go_at_call 9; (with_reducible refine (cP1 _ hB2 hT2).mono ?_); rintro e w3 ⟨rfl, hb3⟩; have hC3 := cells_on hC2 hb3 hz2; have hF3 := free_on hF2 hb3 hz2; have hz3 : w.heap.size < w3.heap.size := Nat.lt_of_lt_of_le hz2 hb3.size; have hw3 : Below w.heap.size w w3 := hw2.trans (hb3.mono hw2.size); have hB3 := hB.below hw3 (Nat.le_refl _); have hT3 := hT.below hw3 (Nat.le_refl _))
      | (go_at_call 11; (with_reducible refine (cQ2 _ hB3).mono ?_); rintro e w5 ⟨rfl, hb5⟩; have hC5 := cells_on (W := w3) (N := w.heap.size) (A := #[Value.int .u64 mi, .int .u64 ho, .int .u64 da, .int .u64 mn, .int .u64 we, .bool ad, .bool aw]) hC3 hb5 hz3; have hF5 := free_on (W := w3) (N := w.heap.size) hF3 hb5 hz3; have hw5 : Below w.heap.size w w5 := hw3.trans (hb5.mono hw3.size); have z5 : w.heap.size < w5.heap.size := Nat.lt_of_lt_of_le hz3 hb5.size; have f0 := hF5 0; have f1 := hF5 1; have f2 := hF5 2; have f3 := hF5 3; have f4 := hF5 4; have f5 := hF5 5; have f6 := hF5 6; have e0 := hC5 0; have e1 := hC5 1; have e2 := hC5 2; have e3 := hC5 3; have e4 := hC5 4; have e5 := hC5 5; have e6 := hC5 6))
    go_ret
    exact ⟨rfl, (((((((hw5.setCell (Nat.le_refl _) _).setCell (Nat.le_refl _) _).setCell (Nat.le_refl _) _).setCell (Nat.le_refl _) _).setCell (Nat.le_refl _) _).setCell (Nat.le_refl _) _).setCell (Nat.le_refl _) _)⟩
set_option maxHeartbeats 16000000 in
theorem back_yn (mi ho da mn we : Int) (ad aw : Bool) (s : List UInt8) (w : World) (hB : BdsAt w) (hT : TabIs64 w) (b0 : U mi) (b1 : U ho) (b2 : U da) (b3 : U mn) (b4 : U we) (hc : chkB mi ho da mn we ad aw = true) (E : Int) (hE : E = 2 ∨ E = 3) (cQ2 : ∀ w, BdsAt w → Calls Tryd.prog 11 #[strV s] w fun e w' => e = .returned (.tuple #[cron0, .int .i64 E]) ∧ Below w.heap.size w w') :
    Calls Tryd.prog 3 #[cronV mi ho da mn we ad aw, strV s] w fun e w' => e = .returned (.bool true) ∧ Below w.heap.size w w' := by
  have cP0 := fun w hB hT => print_daily w hB hT
  have cP1 := fun w hB hT => print_yes mi ho da mn we ad aw w hB hT b0 b1 b2 b3 b4 hc (words_len b0 b1 b2 b3 b4 hc)
  have cQ1 := fun w hB => read_back b0 b1 b2 b3 b4 hc w hB
  generalize cronT (wds mi ho da mn we ad aw) = T at cP1 cQ1
  clear hc
  obtain ⟨w0, hw⟩ : ∃ w0, w0 = w.alloc (.cells (#[Value.int .u64 mi, .int .u64 ho, .int .u64 da, .int .u64 mn, .int .u64 we, .bool ad, .bool aw]) 24) := ⟨_, rfl⟩
  have hC0 : ∀ o, w0.cell? ⟨w.heap.size, o, none⟩ = (#[Value.int .u64 mi, .int .u64 ho, .int .u64 da, .int .u64 mn, .int .u64 we, .bool ad, .bool aw])[o]? := fun o => by rw [hw]; simp
  have hF0 : ∀ o, w0.frozen? ⟨w.heap.size, o, none⟩ = false := fun o => by rw [hw]; simp
  have hz0 : w.heap.size < w0.heap.size := by rw [hw]; simp
  have hw0 : Below w.heap.size w w0 := by rw [hw]; exact (Below.refl _ _).alloc (Nat.le_refl _) _
  go_enter Tryd.func3, Tryd.ntmps3
  rcases hE with rfl | rfl
  · go_wp2_with (first
      | (go_at_call 10; rw [← hw]; (with_reducible refine (daily_b _).mono ?_); rintro e w1 ⟨rfl, hb1⟩; have hC1 := cells_on hC0 hb1 hz0; have hF1 := free_on hF0 hb1 hz0; have hz1 : w.heap.size < w1.heap.size := Nat.lt_of_lt_of_le hz0 hb1.size; have hw1 : Below w.heap.size w w1 := hw0.trans (hb1.mono hw0.size); have hB1 := hB.below hw1 (Nat.le_refl _); have hT1 := hT.below hw1 (Nat.le_refl _))
      | (go_at_call 9; (with_reducible refine (cP0 _ hB1 hT1).mono ?_); rintro e w2 ⟨rfl, hb2⟩; have hC2 := cells_on hC1 hb2 hz1; have hF2 := free_on hF1 hb2 hz1; have hz2 : w.heap.size < w2.heap.size := Nat.lt_of_lt_of_le hz1 hb2.size; have hw2 : Below w.heap.size w w2 := hw1.trans (hb2.mono hw1.size); have hB2 := hB.below hw2 (Nat.le_refl _); have hT2 := hT.below hw2 (Nat.le_refl _))
      | (go_at_call 9; (with_reducible refine (cP1 _ hB2 hT2).mono ?_); rintro e w3 ⟨rfl, hb3⟩; have hC3 := cells_on hC2 hb3 hz2; have hF3 := free_on hF2 hb3 hz2; have hz3 : w.heap.size < w3.heap.size := Nat.lt_of_lt_of_le hz2 hb3.size; have hw3 : Below w.heap.size w w3 := hw2.trans (hb3.mono hw2.size); have hB3 := hB.below hw3 (Nat.le_refl _); have hT3 := hT.below hw3 (Nat.le_refl _))
      | (go_at_call 11; (with_reducible refine (cQ1 _ hB3).mono ?_); rintro e w4 ⟨rfl, hb4⟩; have hC4 := cells_on hC3 hb4 hz3; have hF4 := free_on hF3 hb4 hz3; have hz4 : w.heap.size < w4.heap.size := Nat.lt_of_lt_of_le hz3 hb4.size; have hw4 : Below w.heap.size w w4 := hw3.trans (hb4.mono hw3.size); have hB4 := hB.below hw4 (Nat.le_refl _); have hT4 := hT.below hw4 (Nat.le_refl _); have x4 := hb4.size; have hw4a : Below w.heap.size w (w4.alloc (.cells (#[Value.int .u64 mi, .int .u64 ho, .int .u64 da, .int .u64 mn, .int .u64 we, .bool ad, .bool aw]) 24)) := hw4.alloc hw4.size _; have hB4a := hB.below hw4a (Nat.le_refl _); have hT4a := hT.below hw4a (Nat.le_refl _))
      | (go_at_call 11; (with_reducible refine (cQ2 _ hB4a).mono ?_); rintro e w5 ⟨rfl, hb5⟩; have hC5 := cells_on (W := (w4.alloc (.cells (#[Value.int .u64 mi, .int .u64 ho, .int .u64 da, .int .u64 mn, .int .u64 we, .bool ad, .bool aw]) 24))) (N := w.heap.size) (A := #[Value.int .u64 mi, .int .u64 ho, .int .u64 da, .int .u64 mn, .int .u64 we, .bool ad, .bool aw]) (fun o => by rw [World.cell?_of_block (w := w4) (a := ⟨w.heap.size, o, none⟩) (Below.heap_alloc _ _ _ hz4)]; exact hC4 o) hb5 (by simp; omega); have hF5 := free_on (W := (w4.alloc (.cells (#[Value.int .u64 mi, .int .u64 ho, .int .u64 da, .int .u64 mn, .int .u64 we, .bool ad, .bool aw]) 24))) (N := w.heap.size) (fun o => by rw [World.frozen?_of_block (w := w4) (a := ⟨w.heap.size, o, none⟩) (Below.heap_alloc _ _ _ hz4)]; exact hF4 o) hb5 (by simp; omega); have hw5 : Below w.heap.size w w5 := hw4a.trans (hb5.mono hw4a.size); have z5 : w.heap.size < w5.heap.size := Nat.lt_of_lt_of_le (by simp; omega) hb5.size; have f0 := hF5 0; have f1 := hF5 1; have f2 := hF5 2; have f3 := hF5 3; have f4 := hF5 4; have f5 := hF5 5; have f6 := hF5 6; have e0 := hC5 0; have e1 := hC5 1; have e2 := hC5 2; have e3 := hC5 3; have e4 := hC5 4; have e5 := hC5 5; have e6 := hC5 6))
    go_ret
    exact ⟨rfl, (((((((hw5.setCell (Nat.le_refl _) _).setCell (Nat.le_refl _) _).setCell (Nat.le_refl _) _).setCell (Nat.le_refl _) _).setCell (Nat.le_refl _) _).setCell (Nat.le_refl _) _).setCell (Nat.le_refl _) _)⟩
  · go_wp2_with (first
      | (go_at_call 10; rw [← hw]; (with_reducible refine (daily_b _).mono ?_); rintro e w1 ⟨rfl, hb1⟩; have hC1 := cells_on hC0 hb1 hz0; have hF1 := free_on hF0 hb1 hz0; have hz1 : w.heap.size < w1.heap.size := Nat.lt_of_lt_of_le hz0 hb1.size; have hw1 : Below w.heap.size w w1 := hw0.trans (hb1.mono hw0.size); have hB1 := hB.below hw1 (Nat.le_refl _); have hT1 := hT.below hw1 (Nat.le_refl _))
      | (go_at_call 9; (with_reducible refine (cP0 _ hB1 hT1).mono ?_); rintro e w2 ⟨rfl, hb2⟩; have hC2 := cells_on hC1 hb2 hz1; have hF2 := free_on hF1 hb2 hz1; have hz2 : w.heap.size < w2.heap.size := Nat.lt_of_lt_of_le hz1 hb2.size; have hw2 : Below w.heap.size w w2 := hw1.trans (hb2.mono hw1.size); have hB2 := hB.below hw2 (Nat.le_refl _); have hT2 := hT.below hw2 (Nat.le_refl _))
      | (go_at_call 9; (with_reducible refine (cP1 _ hB2 hT2).mono ?_); rintro e w3 ⟨rfl, hb3⟩; have hC3 := cells_on hC2 hb3 hz2; have hF3 := free_on hF2 hb3 hz2; have hz3 : w.heap.size < w3.heap.size := Nat.lt_of_lt_of_le hz2 hb3.size; have hw3 : Below w.heap.size w w3 := hw2.trans (hb3.mono hw2.size); have hB3 := hB.below hw3 (Nat.le_refl _); have hT3 := hT.below hw3 (Nat.le_refl _))
      | (go_at_call 11; (with_reducible refine (cQ1 _ hB3).mono ?_); rintro e w4 ⟨rfl, hb4⟩; have hC4 := cells_on hC3 hb4 hz3; have hF4 := free_on hF3 hb4 hz3; have hz4 : w.heap.size < w4.heap.size := Nat.lt_of_lt_of_le hz3 hb4.size; have hw4 : Below w.heap.size w w4 := hw3.trans (hb4.mono hw3.size); have hB4 := hB.below hw4 (Nat.le_refl _); have hT4 := hT.below hw4 (Nat.le_refl _); have x4 := hb4.size; have hw4a : Below w.heap.size w (w4.alloc (.cells (#[Value.int .u64 mi, .int .u64 ho, .int .u64 da, .int .u64 mn, .int .u64 we, .bool ad, .bool aw]) 24)) := hw4.alloc hw4.size _; have hB4a := hB.below hw4a (Nat.le_refl _); have hT4a := hT.below hw4a (Nat.le_refl _))
      | (go_at_call 11; (with_reducible refine (cQ2 _ hB4a).mono ?_); rintro e w5 ⟨rfl, hb5⟩; have hC5 := cells_on (W := (w4.alloc (.cells (#[Value.int .u64 mi, .int .u64 ho, .int .u64 da, .int .u64 mn, .int .u64 we, .bool ad, .bool aw]) 24))) (N := w.heap.size) (A := #[Value.int .u64 mi, .int .u64 ho, .int .u64 da, .int .u64 mn, .int .u64 we, .bool ad, .bool aw]) (fun o => by rw [World.cell?_of_block (w := w4) (a := ⟨w.heap.size, o, none⟩) (Below.heap_alloc _ _ _ hz4)]; exact hC4 o) hb5 (by simp; omega); have hF5 := free_on (W := (w4.alloc (.cells (#[Value.int .u64 mi, .int .u64 ho, .int .u64 da, .int .u64 mn, .int .u64 we, .bool ad, .bool aw]) 24))) (N := w.heap.size) (fun o => by rw [World.frozen?_of_block (w := w4) (a := ⟨w.heap.size, o, none⟩) (Below.heap_alloc _ _ _ hz4)]; exact hF4 o) hb5 (by simp; omega); have hw5 : Below w.heap.size w w5 := hw4a.trans (hb5.mono hw4a.size); have z5 : w.heap.size < w5.heap.size := Nat.lt_of_lt_of_le (by simp; omega) hb5.size; have f0 := hF5 0; have f1 := hF5 1; have f2 := hF5 2; have f3 := hF5 3; have f4 := hF5 4; have f5 := hF5 5; have f6 := hF5 6; have e0 := hC5 0; have e1 := hC5 1; have e2 := hC5 2; have e3 := hC5 3; have e4 := hC5 4; have e5 := hC5 5; have e6 := hC5 6))
    go_ret
    exact ⟨rfl, (((((((hw5.setCell (Nat.le_refl _) _).setCell (Nat.le_refl _) _).setCell (Nat.le_refl _) _).setCell (Nat.le_refl _) _).setCell (Nat.le_refl _) _).setCell (Nat.le_refl _) _).setCell (Nat.le_refl _) _)⟩
set_option maxHeartbeats 16000000 in
theorem back_ny (mi ho da mn we : Int) (ad aw : Bool) (s : List UInt8) (w : World) (hB : BdsAt w) (hT : TabIs64 w) (hc : chkB mi ho da mn we ad aw = false) (mi' ho' da' mn' we' : Int) (ad' aw' : Bool) (c0 : U mi') (c1 : U ho') (c2 : U da') (c3 : U mn') (c4 : U we') (hc' : chkB mi' ho' da' mn' we' ad' aw' = true) (cQ2 : ∀ w, BdsAt w → Calls Tryd.prog 11 #[strV s] w fun e w' => e = .returned (.tuple #[cronV mi' ho' da' mn' we' ad' aw', .int .i64 0]) ∧ Below w.heap.size w w') :
    Calls Tryd.prog 3 #[cronV mi ho da mn we ad aw, strV s] w fun e w' => e = .returned (.bool true) ∧ Below w.heap.size w w' := by
  have cP0 := fun w hB hT => print_daily w hB hT
  have cP1 := fun w hB (_ : TabIs64 w) => print_no mi ho da mn we ad aw w hB hc
  have cP2 := fun w hB hT => print_yes mi' ho' da' mn' we' ad' aw' w hB hT c0 c1 c2 c3 c4 hc' (words_len c0 c1 c2 c3 c4 hc')
  have cQ3 := fun w hB => read_back c0 c1 c2 c3 c4 hc' w hB
  generalize cronT (wds mi' ho' da' mn' we' ad' aw') = T' at cP2 cQ3
  clear hc hc'
  obtain ⟨w0, hw⟩ : ∃ w0, w0 = w.alloc (.cells (#[Value.int .u64 mi, .int .u64 ho, .int .u64 da, .int .u64 mn, .int .u64 we, .bool ad, .bool aw]) 24) := ⟨_, rfl⟩
  have hC0 : ∀ o, w0.cell? ⟨w.heap.size, o, none⟩ = (#[Value.int .u64 mi, .int .u64 ho, .int .u64 da, .int .u64 mn, .int .u64 we, .bool ad, .bool aw])[o]? := fun o => by rw [hw]; simp
  have hF0 : ∀ o, w0.frozen? ⟨w.heap.size, o, none⟩ = false := fun o => by rw [hw]; simp
  have hz0 : w.heap.size < w0.heap.size := by rw [hw]; simp
  have hw0 : Below w.heap.size w w0 := by rw [hw]; exact (Below.refl _ _).alloc (Nat.le_refl _) _
  go_enter Tryd.func3, Tryd.ntmps3
  go_wp2_with (first
    | (go_at_call 10; rw [← hw]; (with_reducible refine (daily_b _).mono ?_); rintro e w1 ⟨rfl, hb1⟩; have hC1 := cells_on hC0 hb1 hz0; have hF1 := free_on hF0 hb1 hz0; have hz1 : w.heap.size < w1.heap.size := Nat.lt_of_lt_of_le hz0 hb1.size; have hw1 : Below w.heap.size w w1 := hw0.trans (hb1.mono hw0.size); have hB1 := hB.below hw1 (Nat.le_refl _); have hT1 := hT.below hw1 (Nat.le_refl _))
    | (go_at_call 9; (with_reducible refine (cP0 _ hB1 hT1).mono ?_); rintro e w2 ⟨rfl, hb2⟩; have hC2 := cells_on hC1 hb2 hz1; have hF2 := free_on hF1 hb2 hz1; have hz2 : w.heap.size < w2.heap.size := Nat.lt_of_lt_of_le hz1 hb2.size; have hw2 : Below w.heap.size w w2 := hw1.trans (hb2.mono hw1.size); have hB2 := hB.below hw2 (Nat.le_refl _); have hT2 := hT.below hw2 (Nat.le_refl _))
    | (go_at_call 9; (with_reducible refine (cP1 _ hB2 hT2).mono ?_); rintro e w3 ⟨rfl, hb3⟩; have hC3 := cells_on hC2 hb3 hz2; have hF3 := free_on hF2 hb3 hz2; have hz3 : w.heap.size < w3.heap.size := Nat.lt_of_lt_of_le hz2 hb3.size; have hw3 : Below w.heap.size w w3 := hw2.trans (hb3.mono hw2.size); have hB3 := hB.below hw3 (Nat.le_refl _); have hT3 := hT.below hw3 (Nat.le_refl _))
    | (go_at_call 11; (with_reducible refine (cQ2 _ hB3).mono ?_); rintro e w5 ⟨rfl, hb5⟩; have hC5 := cells_on (W := w3) (N := w.heap.size) (A := #[Value.int .u64 mi, .int .u64 ho, .int .u64 da, .int .u64 mn, .int .u64 we, .bool ad, .bool aw]) hC3 hb5 hz3; have hF5 := free_on (W := w3) (N := w.heap.size) hF3 hb5 hz3; have hw5 : Below w.heap.size w w5 := hw3.trans (hb5.mono hw3.size); have z5 : w.heap.size < w5.heap.size := Nat.lt_of_lt_of_le hz3 hb5.size; have f0 := hF5 0; have f1 := hF5 1; have f2 := hF5 2; have f3 := hF5 3; have f4 := hF5 4; have f5 := hF5 5; have f6 := hF5 6; have e0 := hC5 0; have e1 := hC5 1; have e2 := hC5 2; have e3 := hC5 3; have e4 := hC5 4; have e5 := hC5 5; have e6 := hC5 6)
    | (go_at_call 9; (have hC6 := set7o (.int .u64 mi') (.int .u64 ho') (.int .u64 da') (.int .u64 mn') (.int .u64 we') (.bool ad') (.bool aw') hC5; have hw6 : Below w.heap.size w ((((((((w5.setCell ⟨w.heap.size, 0, none⟩ (.int .u64 mi')).setCell ⟨w.heap.size, 1, none⟩ (.int .u64 ho')).setCell ⟨w.heap.size, 2, none⟩ (.int .u64 da')).setCell ⟨w.heap.size, 3, none⟩ (.int .u64 mn')).setCell ⟨w.heap.size, 4, none⟩ (.int .u64 we')).setCell ⟨w.heap.size, 5, none⟩ (.bool ad')).setCell ⟨w.heap.size, 6, none⟩ (.bool aw'))) := (((((((hw5.setCell (Nat.le_refl _) _).setCell (Nat.le_refl _) _).setCell (Nat.le_refl _) _).setCell (Nat.le_refl _) _).setCell (Nat.le_refl _) _).setCell (Nat.le_refl _) _).setCell (Nat.le_refl _) _); have hz6 : w.heap.size < ((((((((w5.setCell ⟨w.heap.size, 0, none⟩ (.int .u64 mi')).setCell ⟨w.heap.size, 1, none⟩ (.int .u64 ho')).setCell ⟨w.heap.size, 2, none⟩ (.int .u64 da')).setCell ⟨w.heap.size, 3, none⟩ (.int .u64 mn')).setCell ⟨w.heap.size, 4, none⟩ (.int .u64 we')).setCell ⟨w.heap.size, 5, none⟩ (.bool ad')).setCell ⟨w.heap.size, 6, none⟩ (.bool aw'))).heap.size := (by simp; exact z5); generalize (((((((w5.setCell ⟨w.heap.size, 0, none⟩ (.int .u64 mi')).setCell ⟨w.heap.size, 1, none⟩ (.int .u64 ho')).setCell ⟨w.heap.size, 2, none⟩ (.int .u64 da')).setCell ⟨w.heap.size, 3, none⟩ (.int .u64 mn')).setCell ⟨w.heap.size, 4, none⟩ (.int .u64 we')).setCell ⟨w.heap.size, 5, none⟩ (.bool ad')).setCell ⟨w.heap.size, 6, none⟩ (.bool aw')) = w6 at hC6 hw6 hz6 ⊢; (with_reducible refine (cP2 _ (hB.below hw6 (Nat.le_refl _)) (hT.below hw6 (Nat.le_refl _))).mono ?_); rintro e w7 ⟨rfl, hb7⟩; have hC7 := cells_on hC6 hb7 hz6; have hz7 : w.heap.size < w7.heap.size := Nat.lt_of_lt_of_le hz6 hb7.size; have hw7 : Below w.heap.size w w7 := hw6.trans (hb7.mono hw6.size)))
    | (go_at_call 11; (with_reducible refine (cQ3 _ (hB.below hw7 (Nat.le_refl _))).mono ?_); rintro e w8 ⟨rfl, hb8⟩; have hC8 := cells_on hC7 hb8 hz7; have hz8 : w.heap.size < w8.heap.size := Nat.lt_of_lt_of_le hz7 hb8.size; have hw8 : Below w.heap.size w w8 := hw7.trans (hb8.mono hw7.size); have x8 := hb8.size))
  go_ret
  exact ⟨rfl, hw8.alloc hw8.size _⟩
set_option maxHeartbeats 16000000 in
theorem back_yy (mi ho da mn we : Int) (ad aw : Bool) (s : List UInt8) (w : World) (hB : BdsAt w) (hT : TabIs64 w) (b0 : U mi) (b1 : U ho) (b2 : U da) (b3 : U mn) (b4 : U we) (hc : chkB mi ho da mn we ad aw = true) (mi' ho' da' mn' we' : Int) (ad' aw' : Bool) (c0 : U mi') (c1 : U ho') (c2 : U da') (c3 : U mn') (c4 : U we') (hc' : chkB mi' ho' da' mn' we' ad' aw' = true) (cQ2 : ∀ w, BdsAt w → Calls Tryd.prog 11 #[strV s] w fun e w' => e = .returned (.tuple #[cronV mi' ho' da' mn' we' ad' aw', .int .i64 0]) ∧ Below w.heap.size w w') :
    Calls Tryd.prog 3 #[cronV mi ho da mn we ad aw, strV s] w fun e w' => e = .returned (.bool true) ∧ Below w.heap.size w w' := by
  have cP0 := fun w hB hT => print_daily w hB hT
  have cP1 := fun w hB hT => print_yes mi ho da mn we ad aw w hB hT b0 b1 b2 b3 b4 hc (words_len b0 b1 b2 b3 b4 hc)
  have cQ1 := fun w hB => read_back b0 b1 b2 b3 b4 hc w hB
  generalize cronT (wds mi ho da mn we ad aw) = T at cP1 cQ1
  have cP2 := fun w hB hT => print_yes mi' ho' da' mn' we' ad' aw' w hB hT c0 c1 c2 c3 c4 hc' (words_len c0 c1 c2 c3 c4 hc')
  have cQ3 := fun w hB => read_back c0 c1 c2 c3 c4 hc' w hB
  generalize cronT (wds mi' ho' da' mn' we' ad' aw') = T' at cP2 cQ3
  clear hc hc'
  obtain ⟨w0, hw⟩ : ∃ w0, w0 = w.alloc (.cells (#[Value.int .u64 mi, .int .u64 ho, .int .u64 da, .int .u64 mn, .int .u64 we, .bool ad, .bool aw]) 24) := ⟨_, rfl⟩
  have hC0 : ∀ o, w0.cell? ⟨w.heap.size, o, none⟩ = (#[Value.int .u64 mi, .int .u64 ho, .int .u64 da, .int .u64 mn, .int .u64 we, .bool ad, .bool aw])[o]? := fun o => by rw [hw]; simp
  have hF0 : ∀ o, w0.frozen? ⟨w.heap.size, o, none⟩ = false := fun o => by rw [hw]; simp
  have hz0 : w.heap.size < w0.heap.size := by rw [hw]; simp
  have hw0 : Below w.heap.size w w0 := by rw [hw]; exact (Below.refl _ _).alloc (Nat.le_refl _) _
  go_enter Tryd.func3, Tryd.ntmps3
  go_wp2_with (first
    | (go_at_call 10; rw [← hw]; (with_reducible refine (daily_b _).mono ?_); rintro e w1 ⟨rfl, hb1⟩; have hC1 := cells_on hC0 hb1 hz0; have hF1 := free_on hF0 hb1 hz0; have hz1 : w.heap.size < w1.heap.size := Nat.lt_of_lt_of_le hz0 hb1.size; have hw1 : Below w.heap.size w w1 := hw0.trans (hb1.mono hw0.size); have hB1 := hB.below hw1 (Nat.le_refl _); have hT1 := hT.below hw1 (Nat.le_refl _))
    | (go_at_call 9; (with_reducible refine (cP0 _ hB1 hT1).mono ?_); rintro e w2 ⟨rfl, hb2⟩; have hC2 := cells_on hC1 hb2 hz1; have hF2 := free_on hF1 hb2 hz1; have hz2 : w.heap.size < w2.heap.size := Nat.lt_of_lt_of_le hz1 hb2.size; have hw2 : Below w.heap.size w w2 := hw1.trans (hb2.mono hw1.size); have hB2 := hB.below hw2 (Nat.le_refl _); have hT2 := hT.below hw2 (Nat.le_refl _))
    | (go_at_call 9; (with_reducible refine (cP1 _ hB2 hT2).mono ?_); rintro e w3 ⟨rfl, hb3⟩; have hC3 := cells_on hC2 hb3 hz2; have hF3 := free_on hF2 hb3 hz2; have hz3 : w.heap.size < w3.heap.size := Nat.lt_of_lt_of_le hz2 hb3.size; have hw3 : Below w.heap.size w w3 := hw2.trans (hb3.mono hw2.size); have hB3 := hB.below hw3 (Nat.le_refl _); have hT3 := hT.below hw3 (Nat.le_refl _))
    | (go_at_call 11; (with_reducible refine (cQ1 _ hB3).mono ?_); rintro e w4 ⟨rfl, hb4⟩; have hC4 := cells_on hC3 hb4 hz3; have hF4 := free_on hF3 hb4 hz3; have hz4 : w.heap.size < w4.heap.size := Nat.lt_of_lt_of_le hz3 hb4.size; have hw4 : Below w.heap.size w w4 := hw3.trans (hb4.mono hw3.size); have hB4 := hB.below hw4 (Nat.le_refl _); have hT4 := hT.below hw4 (Nat.le_refl _); have x4 := hb4.size; have hw4a : Below w.heap.size w (w4.alloc (.cells (#[Value.int .u64 mi, .int .u64 ho, .int .u64 da, .int .u64 mn, .int .u64 we, .bool ad, .bool aw]) 24)) := hw4.alloc hw4.size _; have hB4a := hB.below hw4a (Nat.le_refl _); have hT4a := hT.below hw4a (Nat.le_refl _))
    | (go_at_call 11; (with_reducible refine (cQ2 _ hB4a).mono ?_); rintro e w5 ⟨rfl, hb5⟩; have hC5 := cells_on (W := (w4.alloc (.cells (#[Value.int .u64 mi, .int .u64 ho, .int .u64 da, .int .u64 mn, .int .u64 we, .bool ad, .bool aw]) 24))) (N := w.heap.size) (A := #[Value.int .u64 mi, .int .u64 ho, .int .u64 da, .int .u64 mn, .int .u64 we, .bool ad, .bool aw]) (fun o => by rw [World.cell?_of_block (w := w4) (a := ⟨w.heap.size, o, none⟩) (Below.heap_alloc _ _ _ hz4)]; exact hC4 o) hb5 (by simp; omega); have hF5 := free_on (W := (w4.alloc (.cells (#[Value.int .u64 mi, .int .u64 ho, .int .u64 da, .int .u64 mn, .int .u64 we, .bool ad, .bool aw]) 24))) (N := w.heap.size) (fun o => by rw [World.frozen?_of_block (w := w4) (a := ⟨w.heap.size, o, none⟩) (Below.heap_alloc _ _ _ hz4)]; exact hF4 o) hb5 (by simp; omega); have hw5 : Below w.heap.size w w5 := hw4a.trans (hb5.mono hw4a.size); have z5 : w.heap.size < w5.heap.size := Nat.lt_of_lt_of_le (by simp; omega) hb5.size; have f0 := hF5 0; have f1 := hF5 1; have f2 := hF5 2; have f3 := hF5 3; have f4 := hF5 4; have f5 := hF5 5; have f6 := hF5 6; have e0 := hC5 0; have e1 := hC5 1; have e2 := hC5 2; have e3 := hC5 3; have e4 := hC5 4; have e5 := hC5 5; have e6 := hC5 6)
    | (go_at_call 9; (have hC6 := set7o (.int .u64 mi') (.int .u64 ho') (.int .u64 da') (.int .u64 mn') (.int .u64 we') (.bool ad') (.bool aw') hC5; have hw6 : Below w.heap.size w ((((((((w5.setCell ⟨w.heap.size, 0, none⟩ (.int .u64 mi')).setCell ⟨w.heap.size, 1, none⟩ (.int .u64 ho')).setCell ⟨w.heap.size, 2, none⟩ (.int .u64 da')).setCell ⟨w.heap.size, 3, none⟩ (.int .u64 mn')).setCell ⟨w.heap.size, 4, none⟩ (.int .u64 we')).setCell ⟨w.heap.size, 5, none⟩ (.bool ad')).setCell ⟨w.heap.size, 6, none⟩ (.bool aw'))) := (((((((hw5.setCell (Nat.le_refl _) _).setCell (Nat.le_refl _) _).setCell (Nat.le_refl _) _).setCell (Nat.le_refl _) _).setCell (Nat.le_refl _) _).setCell (Nat.le_refl _) _).setCell (Nat.le_refl _) _); have hz6 : w.heap.size < ((((((((w5.setCell ⟨w.heap.size, 0, none⟩ (.int .u64 mi')).setCell ⟨w.heap.size, 1, none⟩ (.int .u64 ho')).setCell ⟨w.heap.size, 2, none⟩ (.int .u64 da')).setCell ⟨w.heap.size, 3, none⟩ (.int .u64 mn')).setCell ⟨w.heap.size, 4, none⟩ (.int .u64 we')).setCell ⟨w.heap.size, 5, none⟩ (.bool ad')).setCell ⟨w.heap.size, 6, none⟩ (.bool aw'))).heap.size := (by simp; exact z5); generalize (((((((w5.setCell ⟨w.heap.size, 0, none⟩ (.int .u64 mi')).setCell ⟨w.heap.size, 1, none⟩ (.int .u64 ho')).setCell ⟨w.heap.size, 2, none⟩ (.int .u64 da')).setCell ⟨w.heap.size, 3, none⟩ (.int .u64 mn')).setCell ⟨w.heap.size, 4, none⟩ (.int .u64 we')).setCell ⟨w.heap.size, 5, none⟩ (.bool ad')).setCell ⟨w.heap.size, 6, none⟩ (.bool aw')) = w6 at hC6 hw6 hz6 ⊢; (with_reducible refine (cP2 _ (hB.below hw6 (Nat.le_refl _)) (hT.below hw6 (Nat.le_refl _))).mono ?_); rintro e w7 ⟨rfl, hb7⟩; have hC7 := cells_on hC6 hb7 hz6; have hz7 : w.heap.size < w7.heap.size := Nat.lt_of_lt_of_le hz6 hb7.size; have hw7 : Below w.heap.size w w7 := hw6.trans (hb7.mono hw6.size)))
    | (go_at_call 11; (with_reducible refine (cQ3 _ (hB.below hw7 (Nat.le_refl _))).mono ?_); rintro e w8 ⟨rfl, hb8⟩; have hC8 := cells_on hC7 hb8 hz7; have hz8 : w.heap.size < w8.heap.size := Nat.lt_of_lt_of_le hz7 hb8.size; have hw8 : Below w.heap.size w w8 := hw7.trans (hb8.mono hw7.size); have x8 := hb8.size))
  go_ret
  exact ⟨rfl, hw8.alloc hw8.size _⟩
end Pie
end Go.Proofs.YtmogbileofpcfaeDoor
