/- The law CronNext, walked. -/
import Derived.Test.YtjafcaabbfojkaeDoorCronNextL
namespace Go.Proofs.YtjafcaabbfojkaeDoor
namespace Crn
open Go.RowKit Lai Civ Cal
set_option maxRecDepth 8000

theorem tabD {u : World} (h : TabIs64 u) : TabIs64 u.drew := h

set_option maxHeartbeats 8000000 in
theorem cn_no (mi ho da mn we : Int) (ad aw : Bool) (sec shift : Int) (w : World) (hB : BdsAt w) (hT : TabIs64 w) (h : chkB mi ho da mn we ad aw = false ∨ tmB sec = false ∨ shB shift = false) :
    Calls Tryd.prog 4 #[cronV mi ho da mn we ad aw, .int .i64 sec, .int .i64 shift] w fun e w' => e = .returned (.bool true) ∧ Below w.heap.size w w' := by
  have c := fun w hB => next_no mi ho da mn we ad aw sec shift w hB h
  clear h
  go_enter Tryd.func4, Tryd.ntmps4
  go_wp2_with (first
    | (go_at_call 8; (with_reducible refine (daily_c _).mono ?_); rintro e w1 ⟨rfl, hb1⟩; have hB1 : BdsAt w1 := (bdsA hB).below hb1 (Nat.le_refl _); have hT1 : TabIs64 w1 := (tabA hT).below hb1 (Nat.le_refl _); have hw1 : Hid (Below w.heap.size w w1) := (balloc _).trans (hb1.mono (by simp)); obtain ⟨hc1, hf1⟩ := bcell hb1; have hz1 : w.heap.size < w1.heap.size := (by have := hb1.size; simp at this; omega))
    | (go_at_call 10; (with_reducible refine (next_c _ hB1 hT1).mono ?_); rintro e w2 ⟨rfl, hb2⟩; have hB2 : BdsAt w2 := hB1.below hb2 (Nat.le_refl _); have hw2 : Hid (Below w.heap.size w w2) := bstep hw1 hb2; obtain ⟨hc2, hf2⟩ := bcell hb2)
    | (go_at_call 10; (with_reducible refine (c _ hB2).mono ?_); rintro e w3 ⟨rfl, hb3⟩))
  go_ret
  exact ⟨rfl, bstep hw2 hb3⟩

set_option maxHeartbeats 8000000 in
theorem cn_yes (mi ho da mn we : Int) (ad aw : Bool) (sec shift : Int) (w : World) (hB : BdsAt w) (hT : TabIs64 w) (b0 : U mi) (b1 : U ho) (b2 : U da) (b3 : U mn) (b4 : U we) (hc : chkB mi ho da mn we ad aw = true) (ht : tmB sec = true) (hs : shB shift = true) :
    Calls Tryd.prog 4 #[cronV mi ho da mn we ad aw, .int .i64 sec, .int .i64 shift] w fun e w' => e = .returned (.bool true) ∧ Below w.heap.size w w' := by
  have c := fun w hB hT => next_yes mi ho da mn we ad aw sec shift w hB hT b0 b1 b2 b3 b4 hc ht hs
  have c4 := fun u w hi => of_at shift u w hs hi
  have c5 := fun u w hB hu => match_at mi ho da mn we ad aw u w hB b0 b1 b2 b3 b4 hc hu
  have c6 := fun u w hB hi hF => last_before mi ho da mn we ad aw shift u sec w hB b0 b1 b2 b3 b4 hc hs ht hi hF
  have c7 := fun u w hB hi hu => last_at mi ho da mn we ad aw shift u w hB b0 b1 b2 b3 b4 hc hs hi hu
  have h1 := (tm_iff _).1 ht
  clear ht hs hc
  go_enter Tryd.func4, Tryd.ntmps4
  go_wp2_with (first
    | (go_at_call 8; (with_reducible refine (daily_c _).mono ?_); rintro e w1 ⟨rfl, hb1⟩; have hB1 : BdsAt w1 := (bdsA hB).below hb1 (Nat.le_refl _); have hT1 : TabIs64 w1 := (tabA hT).below hb1 (Nat.le_refl _); have hw1 : Hid (Below w.heap.size w w1) := (balloc _).trans (hb1.mono (by simp)); obtain ⟨hc1, hf1⟩ := bcell hb1; have hz1 : w.heap.size < w1.heap.size := (by have := hb1.size; simp at this; omega))
    | (go_at_call 10; (with_reducible refine (next_c _ hB1 hT1).mono ?_); rintro e w2 ⟨rfl, hb2⟩; have hB2 : BdsAt w2 := hB1.below hb2 (Nat.le_refl _); have hT2 : TabIs64 w2 := hT1.below hb2 (Nat.le_refl _); have hw2 : Hid (Below w.heap.size w w2) := bstep hw1 hb2; obtain ⟨hc2, hf2⟩ := bcell hb2; have hz2 : w.heap.size < w2.heap.size := (by have := hb2.size; omega))
    | (go_at_call 10; (with_reducible refine (c _ hB2 hT2).mono ?_); rintro e w3 ⟨n, ok, rfl, hN, hb3⟩; have hB3 : BdsAt w3 := hB2.below hb3 (Nat.le_refl _); have hw3 : Hid (Below w.heap.size w w3) := bstep hw2 hb3; obtain ⟨hc3, hf3⟩ := bcell hb3; have hz3 : w.heap.size < w3.heap.size := (by have := hb3.size; omega); have hC3 : ∀ o, w3.cell? ⟨w.heap.size, o, none⟩ = (#[Value.int .u64 mi, .int .u64 ho, .int .u64 da, .int .u64 mn, .int .u64 we, .bool ad, .bool aw])[o]? := (fun o => by rw [hc3 _ _ hz2, hc2 _ _ hz1, hc1 _ _ (by simp)]; simp); clear hc1 hc2 hc3 hf1 hf2 hf3; rcases hN with ⟨rfl, u, rfl, hin, hF⟩ | ⟨rfl, rfl, _⟩)
    | (go_at_call 11; (with_reducible refine (c4 _ _ hin).mono ?_); rintro e w4 ⟨rfl, hb4⟩; have d5 := (fun w hB => c5 u w hB hF.2.2.1); have d6 := (fun w hB => c6 u w hB hin hF); have d7 := (fun w hB => c7 u w hB hin hF.2.2.1); have HF : Hid (FirstN mi ho da mn we ad aw (minOf sec shift) u) := hF; clear hF; have hlt : sec < at60 u shift := (by have h2 := HF.1; unfold minOf sc at h2; unfold at60; omega); have hbd := (tm_iff _).1 (show tmB (at60 u shift) = true from hin); have hB4 : BdsAt w4 := hB3.below hb4 (Nat.le_refl _); have hw4 : Hid (Below w.heap.size w w4) := bstep hw3 hb4; have hz4 : w.heap.size < w4.heap.size := (by have := hb4.size; omega); have hC4 : ∀ o, w4.cell? ⟨w.heap.size, o, none⟩ = (#[Value.int .u64 mi, .int .u64 ho, .int .u64 da, .int .u64 mn, .int .u64 we, .bool ad, .bool aw])[o]? := (fun o => (hb4.cell (p := ⟨w.heap.size, o, none⟩) hz3).trans (hC3 o)); have hz4' : w.heap.size < w4.heap.size + 1 := (by omega))
    | (go_at_call 12; (with_reducible refine (d5 _ (bdsA hB4)).mono ?_); rintro e w5 ⟨rfl, hb5⟩; have hB5 : BdsAt w5 := (bdsA hB4).below hb5 (Nat.le_refl _); have hw5 : Hid (Below w.heap.size w w5) := bstep hw4 ((balloc _).trans (hb5.mono (by simp))); obtain ⟨hc5, hf5⟩ := bcell hb5; have hz5 : w.heap.size < w5.heap.size := (by have := hb5.size; simp at this; omega); have hy5 : w4.heap.size < w5.heap.size := (by have := hb5.size; simp at this; omega))
    | (go_at_call 13; (with_reducible refine (d6 _ hB5).mono ?_); rintro e w6 ⟨l, was, rfl, hl, hb6⟩; have hB6 : BdsAt w6 := hB5.below hb6 (Nat.le_refl _); have hw6 : Hid (Below w.heap.size w w6) := bstep hw5 hb6; obtain ⟨hc6, hf6⟩ := bcell hb6; have hz6 : w.heap.size < w6.heap.size := (by have := hb6.size; omega); cases was <;> first | (have hl2 : l ≤ sec := hl rfl; clear hl) | clear hl)
    | (go_at_call 13; (with_reducible refine (d7 _ hB6).mono ?_); rintro e w7 ⟨rfl, hb7⟩))
  all_goals first
    | (go_ret; exact ⟨rfl, bstep hw6 hb7⟩)
    | (go_ret; exact ⟨rfl, hw3⟩)
end Crn
end Go.Proofs.YtjafcaabbfojkaeDoor
