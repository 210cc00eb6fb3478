/- The law CronSeeks, walked. -/
import Derived.Test.YtdigiomaggnjoaaDoorSeekUp
import Derived.Test.YtdigiomaggnjoaaDoorSeekDown
import Derived.Test.YtdigiomaggnjoaaDoorRefChk
namespace Go.Proofs.YtdigiomaggnjoaaDoor
namespace RCrn
open Go.RowKit Lai Civ Cal Crn RCiv Rst
set_option maxRecDepth 8000

set_option maxHeartbeats 16000000 in
theorem cs_bad (mi ho da mn we : Int) (ad aw : Bool) (sec shift : Int) (w : World) (hB : BdsAt w) (hT : TabIs64 w) (b0 : U mi) (b1 : U ho) (b2 : U da) (b3 : U mn) (b4 : U we) (hc : chkB mi ho da mn we ad aw = false) :
    Calls Tryd.prog 5 #[cronV mi ho da mn we ad aw, .int .i64 sec, .int .i64 shift] w fun e w' => e = .returned (.bool true) ∧ Below w.heap.size w w' := by
  have cc := fun w => rcron_any mi ho da mn we ad aw w b0 b1 b2 b3 b4
  rw [show chkE mi ho da mn we ad aw = 1 by unfold chkE; rw [hc]; rfl] at cc
  have c1 := fun w hB => next_no mi ho da mn we ad aw sec shift w hB (Or.inl hc)
  have c2 := fun w hB => last_no mi ho da mn we ad aw sec shift w hB (Or.inl hc)
  clear hc b0 b1 b2 b3 b4
  go_enter Tryd.func5, Tryd.ntmps5
  go_wp2_with (first
    | (go_at_call 6; (with_reducible refine (cc _).mono ?_); rintro e w1 ⟨rfl, hb1⟩; have hC1 : ∀ o, w1.cell? ⟨w.heap.size, o, none⟩ = (#[Value.int .u64 mi, .int .u64 ho, .int .u64 da, .int .u64 mn, .int .u64 we, .bool ad, .bool aw])[o]? := (fun o => by rw [(bcell hb1).1 _ _ (by simp)]; simp); have hz1 : w.heap.size < w1.heap.size := (by have := hb1.size; simp at this; omega); have hB1 : BdsAt w1 := (hB.below (balloc _) (Nat.le_refl _)).below hb1 (Nat.le_refl _); have hT1 : TabIs64 w1 := (hT.below (balloc _) (Nat.le_refl _)).below hb1 (Nat.le_refl _); have hw1 : Hid (Below w.heap.size w w1) := (balloc _).trans (hb1.mono (by simp)))
    | (go_at_call 16; (with_reducible refine (c1 _ hB1).mono ?_); rintro e w2 ⟨rfl, hb2⟩; have hC2 : ∀ o, w2.cell? ⟨w.heap.size, o, none⟩ = (#[Value.int .u64 mi, .int .u64 ho, .int .u64 da, .int .u64 mn, .int .u64 we, .bool ad, .bool aw])[o]? := (fun o => ((bcell hb2).1 _ _ hz1).trans (hC1 o)); have hz2 : w.heap.size < w2.heap.size := (by have := hb2.size; omega); have hB2 : BdsAt w2 := hB1.below hb2 (Nat.le_refl _); have hT2 : TabIs64 w2 := hT1.below hb2 (Nat.le_refl _); have hw2 : Hid (Below w.heap.size w w2) := bstep hw1 hb2)
    | (go_at_call 17; (with_reducible refine (c2 _ hB2).mono ?_); rintro e w3 ⟨rfl, hb3⟩; have hC3 : ∀ o, w3.cell? ⟨w.heap.size, o, none⟩ = (#[Value.int .u64 mi, .int .u64 ho, .int .u64 da, .int .u64 mn, .int .u64 we, .bool ad, .bool aw])[o]? := (fun o => ((bcell hb3).1 _ _ hz2).trans (hC2 o)); have hz3 : w.heap.size < w3.heap.size := (by have := hb3.size; omega); have hB3 : BdsAt w3 := hB2.below hb3 (Nat.le_refl _); have hT3 : TabIs64 w3 := hT2.below hb3 (Nat.le_refl _); have hw3 : Hid (Below w.heap.size w w3) := bstep hw2 hb3))
  go_ret
  exact ⟨rfl, hw3⟩

set_option maxHeartbeats 16000000 in
theorem cs_no (mi ho da mn we : Int) (ad aw : Bool) (sec shift : Int) (w : World) (hB : BdsAt w) (hT : TabIs64 w) (b0 : U mi) (b1 : U ho) (b2 : U da) (b3 : U mn) (b4 : U we) (hc : chkB mi ho da mn we ad aw = true) (h : tmB sec = false ∨ shB shift = false) :
    Calls Tryd.prog 5 #[cronV mi ho da mn we ad aw, .int .i64 sec, .int .i64 shift] w fun e w' => e = .returned (.bool true) ∧ Below w.heap.size w w' := by
  have cc := fun w => rcron_any mi ho da mn we ad aw w b0 b1 b2 b3 b4
  rw [show chkE mi ho da mn we ad aw = 0 by unfold chkE; rw [hc]; rfl] at cc
  have c0 := fun w => rof_no sec shift w h
  have c1 := fun w hB => next_no mi ho da mn we ad aw sec shift w hB (Or.inr h)
  have c2 := fun w hB => last_no mi ho da mn we ad aw sec shift w hB (Or.inr h)
  clear hc h b0 b1 b2 b3 b4
  go_enter Tryd.func5, Tryd.ntmps5
  go_wp2_with (first
    | (go_at_call 6; (with_reducible refine (cc _).mono ?_); rintro e w1 ⟨rfl, hb1⟩; have hC1 : ∀ o, w1.cell? ⟨w.heap.size, o, none⟩ = (#[Value.int .u64 mi, .int .u64 ho, .int .u64 da, .int .u64 mn, .int .u64 we, .bool ad, .bool aw])[o]? := (fun o => by rw [(bcell hb1).1 _ _ (by simp)]; simp); have hz1 : w.heap.size < w1.heap.size := (by have := hb1.size; simp at this; omega); have hB1 : BdsAt w1 := (hB.below (balloc _) (Nat.le_refl _)).below hb1 (Nat.le_refl _); have hT1 : TabIs64 w1 := (hT.below (balloc _) (Nat.le_refl _)).below hb1 (Nat.le_refl _); have hw1 : Hid (Below w.heap.size w w1) := (balloc _).trans (hb1.mono (by simp)))
    | (go_at_call 14; (with_reducible refine (c0 _).mono ?_); rintro e w2 ⟨rfl, hb2⟩; have hC2 : ∀ o, w2.cell? ⟨w.heap.size, o, none⟩ = (#[Value.int .u64 mi, .int .u64 ho, .int .u64 da, .int .u64 mn, .int .u64 we, .bool ad, .bool aw])[o]? := (fun o => ((bcell hb2).1 _ _ hz1).trans (hC1 o)); have hz2 : w.heap.size < w2.heap.size := (by have := hb2.size; omega); have hB2 : BdsAt w2 := hB1.below hb2 (Nat.le_refl _); have hT2 : TabIs64 w2 := hT1.below hb2 (Nat.le_refl _); have hw2 : Hid (Below w.heap.size w w2) := bstep hw1 hb2)
    | (go_at_call 16; (with_reducible refine (c1 _ hB2).mono ?_); rintro e w3 ⟨rfl, hb3⟩; have hC3 : ∀ o, w3.cell? ⟨w.heap.size, o, none⟩ = (#[Value.int .u64 mi, .int .u64 ho, .int .u64 da, .int .u64 mn, .int .u64 we, .bool ad, .bool aw])[o]? := (fun o => ((bcell hb3).1 _ _ hz2).trans (hC2 o)); have hz3 : w.heap.size < w3.heap.size := (by have := hb3.size; omega); have hB3 : BdsAt w3 := hB2.below hb3 (Nat.le_refl _); have hT3 : TabIs64 w3 := hT2.below hb3 (Nat.le_refl _); have hw3 : Hid (Below w.heap.size w w3) := bstep hw2 hb3)
    | (go_at_call 17; (with_reducible refine (c2 _ hB3).mono ?_); rintro e w4 ⟨rfl, hb4⟩; have hC4 : ∀ o, w4.cell? ⟨w.heap.size, o, none⟩ = (#[Value.int .u64 mi, .int .u64 ho, .int .u64 da, .int .u64 mn, .int .u64 we, .bool ad, .bool aw])[o]? := (fun o => ((bcell hb4).1 _ _ hz3).trans (hC3 o)); have hz4 : w.heap.size < w4.heap.size := (by have := hb4.size; omega); have hB4 : BdsAt w4 := hB3.below hb4 (Nat.le_refl _); have hT4 : TabIs64 w4 := hT3.below hb4 (Nat.le_refl _); have hw4 : Hid (Below w.heap.size w w4) := bstep hw3 hb4))
  go_ret
  exact ⟨rfl, hw4⟩

set_option maxHeartbeats 16000000 in
theorem cs_yes (mi ho da mn we : Int) (ad aw : Bool) (sec shift : Int) (w : World) (hB : BdsAt w) (hT : TabIs64 w) (b0 : U mi) (b1 : U ho) (b2 : U da) (b3 : U mn) (b4 : U we) (hc : chkB mi ho da mn we ad aw = true) (ht : tmB sec = true) (hs : shB shift = true) :
    Calls Tryd.prog 5 #[cronV mi ho da mn we ad aw, .int .i64 sec, .int .i64 shift] w fun e w' => e = .returned (.bool true) ∧ Below w.heap.size w w' := by
  have cc := fun w => rcron_any mi ho da mn we ad aw w b0 b1 b2 b3 b4
  rw [show chkE mi ho da mn we ad aw = 0 by unfold chkE; rw [hc]; rfl] at cc
  have c0 := fun w => rof_yes sec shift w ht hs
  have c1 := fun w => seekUp mi ho da mn we ad aw sec shift w b0 b1 b2 b3 b4 ht hs
  have c2 := fun w => seekDown mi ho da mn we ad aw sec shift w b0 b1 b2 b3 b4 ht hs
  have c3 := fun w hB hT => next_yes mi ho da mn we ad aw sec shift w hB hT b0 b1 b2 b3 b4 hc ht hs
  have c4 := fun w hB => last_yes mi ho da mn we ad aw sec shift w hB b0 b1 b2 b3 b4 hc ht hs
  clear hc ht hs b0 b1 b2 b3 b4
  go_enter Tryd.func5, Tryd.ntmps5
  go_wp2_with (first
    | (go_at_call 6; (with_reducible refine (cc _).mono ?_); rintro e w1 ⟨rfl, hb1⟩; have hC1 : ∀ o, w1.cell? ⟨w.heap.size, o, none⟩ = (#[Value.int .u64 mi, .int .u64 ho, .int .u64 da, .int .u64 mn, .int .u64 we, .bool ad, .bool aw])[o]? := (fun o => by rw [(bcell hb1).1 _ _ (by simp)]; simp); have hz1 : w.heap.size < w1.heap.size := (by have := hb1.size; simp at this; omega); have hB1 : BdsAt w1 := (hB.below (balloc _) (Nat.le_refl _)).below hb1 (Nat.le_refl _); have hT1 : TabIs64 w1 := (hT.below (balloc _) (Nat.le_refl _)).below hb1 (Nat.le_refl _); have hw1 : Hid (Below w.heap.size w w1) := (balloc _).trans (hb1.mono (by simp)))
    | (go_at_call 14; (with_reducible refine (c0 _).mono ?_); rintro e w2 ⟨rfl, hb2⟩; have hC2 : ∀ o, w2.cell? ⟨w.heap.size, o, none⟩ = (#[Value.int .u64 mi, .int .u64 ho, .int .u64 da, .int .u64 mn, .int .u64 we, .bool ad, .bool aw])[o]? := (fun o => ((bcell hb2).1 _ _ hz1).trans (hC1 o)); have hz2 : w.heap.size < w2.heap.size := (by have := hb2.size; omega); have hB2 : BdsAt w2 := hB1.below hb2 (Nat.le_refl _); have hT2 : TabIs64 w2 := hT1.below hb2 (Nat.le_refl _); have hw2 : Hid (Below w.heap.size w w2) := bstep hw1 hb2)
    | (go_at_call 15; (with_reducible refine (c1 _).mono ?_); rintro e w3 ⟨n, ok, rfl, hn0, hb3⟩; have hC3 : ∀ o, w3.cell? ⟨w.heap.size, o, none⟩ = (#[Value.int .u64 mi, .int .u64 ho, .int .u64 da, .int .u64 mn, .int .u64 we, .bool ad, .bool aw])[o]? := (fun o => ((bcell hb3).1 _ _ hz2).trans (hC2 o)); have hz3 : w.heap.size < w3.heap.size := (by have := hb3.size; omega); have hB3 : BdsAt w3 := hB2.below hb3 (Nat.le_refl _); have hT3 : TabIs64 w3 := hT2.below hb3 (Nat.le_refl _); have hw3 : Hid (Below w.heap.size w w3) := bstep hw2 hb3; have hn : Hid (NextIs mi ho da mn we ad aw (minOf sec shift) shift n ok) := hn0; clear hn0)
    | (go_at_call 15; (with_reducible refine (c2 _).mono ?_); rintro e w4 ⟨l, lok, rfl, hl0, hb4⟩; have hC4 : ∀ o, w4.cell? ⟨w.heap.size, o, none⟩ = (#[Value.int .u64 mi, .int .u64 ho, .int .u64 da, .int .u64 mn, .int .u64 we, .bool ad, .bool aw])[o]? := (fun o => ((bcell hb4).1 _ _ hz3).trans (hC3 o)); have hz4 : w.heap.size < w4.heap.size := (by have := hb4.size; omega); have hB4 : BdsAt w4 := hB3.below hb4 (Nat.le_refl _); have hT4 : TabIs64 w4 := hT3.below hb4 (Nat.le_refl _); have hw4 : Hid (Below w.heap.size w w4) := bstep hw3 hb4; have hl : Hid (LastIs mi ho da mn we ad aw (minOf sec shift) shift l lok) := hl0; clear hl0)
    | (go_at_call 16; (with_reducible refine (c3 _ hB4 hT4).mono ?_); rintro e w5 ⟨n5, ok5, rfl, hn5, hb5⟩; have hC5 : ∀ o, w5.cell? ⟨w.heap.size, o, none⟩ = (#[Value.int .u64 mi, .int .u64 ho, .int .u64 da, .int .u64 mn, .int .u64 we, .bool ad, .bool aw])[o]? := (fun o => ((bcell hb5).1 _ _ hz4).trans (hC4 o)); have hz5 : w.heap.size < w5.heap.size := (by have := hb5.size; omega); have hB5 : BdsAt w5 := hB4.below hb5 (Nat.le_refl _); have hT5 : TabIs64 w5 := hT4.below hb5 (Nat.le_refl _); have hw5 : Hid (Below w.heap.size w w5) := bstep hw4 hb5; obtain ⟨rfl, rfl⟩ := next_one hn.out hn5; clear hn hn5)
    | (go_at_call 17; (with_reducible refine (c4 _ hB5).mono ?_); rintro e w6 ⟨l6, ok6, rfl, hl6, hb6⟩; have hC6 : ∀ o, w6.cell? ⟨w.heap.size, o, none⟩ = (#[Value.int .u64 mi, .int .u64 ho, .int .u64 da, .int .u64 mn, .int .u64 we, .bool ad, .bool aw])[o]? := (fun o => ((bcell hb6).1 _ _ hz5).trans (hC5 o)); have hz6 : w.heap.size < w6.heap.size := (by have := hb6.size; omega); have hB6 : BdsAt w6 := hB5.below hb6 (Nat.le_refl _); have hT6 : TabIs64 w6 := hT5.below hb6 (Nat.le_refl _); have hw6 : Hid (Below w.heap.size w w6) := bstep hw5 hb6; obtain ⟨rfl, rfl⟩ := lasts_one hl.out hl6; clear hl hl6))
  go_ret
  exact ⟨rfl, hw6⟩
end RCrn
end Go.Proofs.YtdigiomaggnjoaaDoor
