/- The law SpanEdges, walked. -/
import Derived.Test.YtdigiomaggnjoaeDoorSpanLaws
import Derived.Test.YtdigiomaggnjoaeDoorRestWalk
namespace Go.Proofs.YtdigiomaggnjoaeDoor
namespace Crn
open Go.RowKit Lai Civ Cal Rst
set_option maxRecDepth 8000

theorem edge_lawQ {a b : K} {r : Bool} {shift : Int} (hW : Win (mt a)) (sec n : Int) (h : EdgeR (if r = true then b else a) a b r shift 200 sec n true) (hr : InQ r a b (minOf sec shift) shift) :
    sec < n ∧ tmB n = true ∧ ¬ InQ r a b (minOf n shift) shift ∧ ∀ t, sec ≤ t → t < n → InQ r a b (minOf t shift) shift := edge_law hW 200 sec n h hr
theorem wrap_in (n : Int) (h1 : -9223372036854775808 ≤ n) (h2 : n ≤ 9223372036854775807) : IntKind.i64.wrap n = n := by
  rw [IntKind.wrap_i64]; omega

set_option maxHeartbeats 8000000 in
theorem ed_no (a b : K) (sec shift at0 : Int) (w : World) (hB : BdsAt w) (hT : TabIs64 w) (h : kc a = false ∨ kc b = false ∨ tmB sec = false ∨ shB shift = false) :
    Calls Tryd.prog 7 #[spanV a b, .int .i64 sec, .int .i64 shift, .int .i64 at0] w fun e w' => e = .returned (.bool true) ∧ Below w.heap.size w w' := by
  have c1 := fun w hB => edge_no a b sec shift w hB h
  clear h
  go_enter Tryd.func7, Tryd.ntmps7
  go_wp2_with (first
    | (go_at_call 10; (with_reducible refine (daily8 _).mono ?_); rintro e w1 ⟨rfl, hb1⟩; have hC1 : ∀ o, w1.cell? ⟨w.heap.size, o, none⟩ = (#[Value.int .u64 a.mi, .int .u64 a.ho, .int .u64 a.da, .int .u64 a.mn, .int .u64 a.we, .bool a.ad, .bool a.aw, .int .u64 b.mi, .int .u64 b.ho, .int .u64 b.da, .int .u64 b.mn, .int .u64 b.we, .bool b.ad, .bool b.aw])[o]? := (fun o => by rw [(bcell hb1).1 _ _ (by simp)]; simp); have hz1 : w.heap.size < w1.heap.size := (by have := hb1.size; simp at this; omega); have hB1 : BdsAt w1 := (bdsA hB).below hb1 (Nat.le_refl _); have hT1 : TabIs64 w1 := (tabA hT).below hb1 (Nat.le_refl _); have hw1 : Hid (Below w.heap.size w w1) := (balloc _).trans (hb1.mono (by simp)))
    | (go_at_call 10; (with_reducible refine (daily18 _).mono ?_); rintro e w2 ⟨rfl, hb2⟩; have hC2 : ∀ o, w2.cell? ⟨w.heap.size, o, none⟩ = (#[Value.int .u64 a.mi, .int .u64 a.ho, .int .u64 a.da, .int .u64 a.mn, .int .u64 a.we, .bool a.ad, .bool a.aw, .int .u64 b.mi, .int .u64 b.ho, .int .u64 b.da, .int .u64 b.mn, .int .u64 b.we, .bool b.ad, .bool b.aw])[o]? := (fun o => ((bcell hb2).1 _ _ hz1).trans (hC1 o)); have hz2 : w.heap.size < w2.heap.size := (by have := hb2.size; omega); have hB2 : BdsAt w2 := hB1.below hb2 (Nat.le_refl _); have hT2 : TabIs64 w2 := hT1.below hb2 (Nat.le_refl _); have hw2 : Hid (Below w.heap.size w w2) := bstep hw1 hb2)
    | (go_at_call 17; (with_reducible refine (in_eight_c _ (bdsA hB2)).mono ?_); rintro e w3 ⟨rfl, hb3⟩; have hC3 : ∀ o, w3.cell? ⟨w.heap.size, o, none⟩ = (#[Value.int .u64 a.mi, .int .u64 a.ho, .int .u64 a.da, .int .u64 a.mn, .int .u64 a.we, .bool a.ad, .bool a.aw, .int .u64 b.mi, .int .u64 b.ho, .int .u64 b.da, .int .u64 b.mn, .int .u64 b.we, .bool b.ad, .bool b.aw])[o]? := (fun o => by rw [(bcell hb3).1 _ _ (by simp; omega), (bcell (balloc _)).1 _ _ hz2]; exact hC2 o); have hz3 : w.heap.size < w3.heap.size := (by have := hb3.size; simp at this; omega); have hB3 : BdsAt w3 := (bdsA hB2).below hb3 (Nat.le_refl _); have hT3 : TabIs64 w3 := (tabA hT2).below hb3 (Nat.le_refl _); have hw3 : Hid (Below w.heap.size w w3) := bstep hw2 ((balloc _).trans (hb3.mono (by simp))); have hD3 : ∀ o, w3.cell? ⟨w2.heap.size, o, none⟩ = (#[Value.int .u64 1, .int .u64 256, .int .u64 4294967294, .int .u64 8190, .int .u64 127, .bool true, .bool true, .int .u64 1, .int .u64 262144, .int .u64 4294967294, .int .u64 8190, .int .u64 127, .bool true, .bool true])[o]? := (fun o => by rw [(bcell hb3).1 _ _ (by simp)]; simp); have hy3 : w2.heap.size < w3.heap.size := (by have := hb3.size; simp at this; omega))
    | (go_at_call 18; (with_reducible refine (edge_nine_c _ hB3 hT3).mono ?_); rintro e w4 ⟨rfl, hb4⟩; have hC4 : ∀ o, w4.cell? ⟨w.heap.size, o, none⟩ = (#[Value.int .u64 a.mi, .int .u64 a.ho, .int .u64 a.da, .int .u64 a.mn, .int .u64 a.we, .bool a.ad, .bool a.aw, .int .u64 b.mi, .int .u64 b.ho, .int .u64 b.da, .int .u64 b.mn, .int .u64 b.we, .bool b.ad, .bool b.aw])[o]? := (fun o => ((bcell hb4).1 _ _ hz3).trans (hC3 o)); have hz4 : w.heap.size < w4.heap.size := (by have := hb4.size; omega); have hB4 : BdsAt w4 := hB3.below hb4 (Nat.le_refl _); have hT4 : TabIs64 w4 := hT3.below hb4 (Nat.le_refl _); have hw4 : Hid (Below w.heap.size w w4) := bstep hw3 hb4)
    | (go_at_call 18; (with_reducible refine (c1 _ hB4).mono ?_); rintro e w5 ⟨rfl, hb5⟩; have hC5 : ∀ o, w5.cell? ⟨w.heap.size, o, none⟩ = (#[Value.int .u64 a.mi, .int .u64 a.ho, .int .u64 a.da, .int .u64 a.mn, .int .u64 a.we, .bool a.ad, .bool a.aw, .int .u64 b.mi, .int .u64 b.ho, .int .u64 b.da, .int .u64 b.mn, .int .u64 b.we, .bool b.ad, .bool b.aw])[o]? := (fun o => ((bcell hb5).1 _ _ hz4).trans (hC4 o)); have hz5 : w.heap.size < w5.heap.size := (by have := hb5.size; omega); have hB5 : BdsAt w5 := hB4.below hb5 (Nat.le_refl _); have hT5 : TabIs64 w5 := hT4.below hb5 (Nat.le_refl _); have hw5 : Hid (Below w.heap.size w w5) := bstep hw4 hb5))
  go_ret
  exact ⟨rfl, hw5⟩

set_option maxHeartbeats 16000000 in
theorem ed_in (a b : K) (sec shift at0 : Int) (w : World) (hB : BdsAt w) (hT : TabIs64 w) (ua : Us a) (ub : Us b) (ha : kc a = true) (hb : kc b = true) (ht : tmB sec = true) (hs : shB shift = true) (hin :  InP (mt a) (mt b) (minOf sec shift) shift) :
    Calls Tryd.prog 7 #[spanV a b, .int .i64 sec, .int .i64 shift, .int .i64 at0] w fun e w' => e = .returned (.bool true) ∧ Below w.heap.size w w' := by
  have c1 := fun w hB hT => edge_in a b sec shift w hB hT ua ub ha hb ht hs hin
  have c2 := fun w hB => sin_true a b sec shift w hB ua ub ha hb ht hs hin
  have c3 := fun t w hB ht h => sin_false a b t shift w hB ua ub ha hb ht hs h
  have c4 := fun t w hB ht h => sin_true a b t shift w hB ua ub ha hb ht hs h
  have law := fun n => edge_lawQ (a := a) (b := b) (r := true) (shift := shift) (win_k ha) sec n
  have h1 := (tm_iff _).1 ht
  have HIN : InQ true a b (minOf sec shift) shift := by unfold InQ; simp [hin]
  clear ua ub ha hb ht hs hin
  go_enter Tryd.func7, Tryd.ntmps7
  go_wp2_with (first
    | (go_at_call 10; (with_reducible refine (daily8 _).mono ?_); rintro e w1 ⟨rfl, hb1⟩; have hC1 : ∀ o, w1.cell? ⟨w.heap.size, o, none⟩ = (#[Value.int .u64 a.mi, .int .u64 a.ho, .int .u64 a.da, .int .u64 a.mn, .int .u64 a.we, .bool a.ad, .bool a.aw, .int .u64 b.mi, .int .u64 b.ho, .int .u64 b.da, .int .u64 b.mn, .int .u64 b.we, .bool b.ad, .bool b.aw])[o]? := (fun o => by rw [(bcell hb1).1 _ _ (by simp)]; simp); have hz1 : w.heap.size < w1.heap.size := (by have := hb1.size; simp at this; omega); have hB1 : BdsAt w1 := (bdsA hB).below hb1 (Nat.le_refl _); have hT1 : TabIs64 w1 := (tabA hT).below hb1 (Nat.le_refl _); have hw1 : Hid (Below w.heap.size w w1) := (balloc _).trans (hb1.mono (by simp)))
    | (go_at_call 10; (with_reducible refine (daily18 _).mono ?_); rintro e w2 ⟨rfl, hb2⟩; have hC2 : ∀ o, w2.cell? ⟨w.heap.size, o, none⟩ = (#[Value.int .u64 a.mi, .int .u64 a.ho, .int .u64 a.da, .int .u64 a.mn, .int .u64 a.we, .bool a.ad, .bool a.aw, .int .u64 b.mi, .int .u64 b.ho, .int .u64 b.da, .int .u64 b.mn, .int .u64 b.we, .bool b.ad, .bool b.aw])[o]? := (fun o => ((bcell hb2).1 _ _ hz1).trans (hC1 o)); have hz2 : w.heap.size < w2.heap.size := (by have := hb2.size; omega); have hB2 : BdsAt w2 := hB1.below hb2 (Nat.le_refl _); have hT2 : TabIs64 w2 := hT1.below hb2 (Nat.le_refl _); have hw2 : Hid (Below w.heap.size w w2) := bstep hw1 hb2)
    | (go_at_call 17; (with_reducible refine (in_eight_c _ (bdsA hB2)).mono ?_); rintro e w3 ⟨rfl, hb3⟩; have hC3 : ∀ o, w3.cell? ⟨w.heap.size, o, none⟩ = (#[Value.int .u64 a.mi, .int .u64 a.ho, .int .u64 a.da, .int .u64 a.mn, .int .u64 a.we, .bool a.ad, .bool a.aw, .int .u64 b.mi, .int .u64 b.ho, .int .u64 b.da, .int .u64 b.mn, .int .u64 b.we, .bool b.ad, .bool b.aw])[o]? := (fun o => by rw [(bcell hb3).1 _ _ (by simp; omega), (bcell (balloc _)).1 _ _ hz2]; exact hC2 o); have hz3 : w.heap.size < w3.heap.size := (by have := hb3.size; simp at this; omega); have hB3 : BdsAt w3 := (bdsA hB2).below hb3 (Nat.le_refl _); have hT3 : TabIs64 w3 := (tabA hT2).below hb3 (Nat.le_refl _); have hw3 : Hid (Below w.heap.size w w3) := bstep hw2 ((balloc _).trans (hb3.mono (by simp))); have hD3 : ∀ o, w3.cell? ⟨w2.heap.size, o, none⟩ = (#[Value.int .u64 1, .int .u64 256, .int .u64 4294967294, .int .u64 8190, .int .u64 127, .bool true, .bool true, .int .u64 1, .int .u64 262144, .int .u64 4294967294, .int .u64 8190, .int .u64 127, .bool true, .bool true])[o]? := (fun o => by rw [(bcell hb3).1 _ _ (by simp)]; simp); have hy3 : w2.heap.size < w3.heap.size := (by have := hb3.size; simp at this; omega))
    | (go_at_call 18; (with_reducible refine (edge_nine_c _ hB3 hT3).mono ?_); rintro e w4 ⟨rfl, hb4⟩; have hC4 : ∀ o, w4.cell? ⟨w.heap.size, o, none⟩ = (#[Value.int .u64 a.mi, .int .u64 a.ho, .int .u64 a.da, .int .u64 a.mn, .int .u64 a.we, .bool a.ad, .bool a.aw, .int .u64 b.mi, .int .u64 b.ho, .int .u64 b.da, .int .u64 b.mn, .int .u64 b.we, .bool b.ad, .bool b.aw])[o]? := (fun o => ((bcell hb4).1 _ _ hz3).trans (hC3 o)); have hz4 : w.heap.size < w4.heap.size := (by have := hb4.size; omega); have hB4 : BdsAt w4 := hB3.below hb4 (Nat.le_refl _); have hT4 : TabIs64 w4 := hT3.below hb4 (Nat.le_refl _); have hw4 : Hid (Below w.heap.size w w4) := bstep hw3 hb4)
    | (go_at_call 18; (with_reducible refine (c1 _ hB4 hT4).mono ?_); rintro e w5 ⟨n, ok, rfl, hE0, hb5⟩; have hC5 : ∀ o, w5.cell? ⟨w.heap.size, o, none⟩ = (#[Value.int .u64 a.mi, .int .u64 a.ho, .int .u64 a.da, .int .u64 a.mn, .int .u64 a.we, .bool a.ad, .bool a.aw, .int .u64 b.mi, .int .u64 b.ho, .int .u64 b.da, .int .u64 b.mn, .int .u64 b.we, .bool b.ad, .bool b.aw])[o]? := (fun o => ((bcell hb5).1 _ _ hz4).trans (hC4 o)); have hz5 : w.heap.size < w5.heap.size := (by have := hb5.size; omega); have hB5 : BdsAt w5 := hB4.below hb5 (Nat.le_refl _); have hT5 : TabIs64 w5 := hT4.below hb5 (Nat.le_refl _); have hw5 : Hid (Below w.heap.size w w5) := bstep hw4 hb5; cases ok <;> go_loud (first | (obtain rfl := edge_f _ _ _ hE0; clear law hE0) | (have hl := law n hE0 HIN; clear law hE0; obtain ⟨l1, l2, l3, l4⟩ := hl; have hn1 := (tm_iff _).1 l2; have d3 := (fun w hB => c3 n w hB l2 (by simpa [InQ] using l3)); have L4 : Hid (∀ t, sec ≤ t → t < n → tmB t = true ∧ InQ true a b (minOf t shift) shift) := (fun t g1 g2 => ⟨(tm_iff _).2 (by omega), l4 t g1 g2⟩); clear l2 l3 l4 c3)))
    | (go_at_call 17; (with_reducible refine (c2 _ hB5).mono ?_); rintro e w6 ⟨rfl, hb6⟩; have hC6 : ∀ o, w6.cell? ⟨w.heap.size, o, none⟩ = (#[Value.int .u64 a.mi, .int .u64 a.ho, .int .u64 a.da, .int .u64 a.mn, .int .u64 a.we, .bool a.ad, .bool a.aw, .int .u64 b.mi, .int .u64 b.ho, .int .u64 b.da, .int .u64 b.mn, .int .u64 b.we, .bool b.ad, .bool b.aw])[o]? := (fun o => ((bcell hb6).1 _ _ hz5).trans (hC5 o)); have hz6 : w.heap.size < w6.heap.size := (by have := hb6.size; omega); have hB6 : BdsAt w6 := hB5.below hb6 (Nat.le_refl _); have hT6 : TabIs64 w6 := hT5.below hb6 (Nat.le_refl _); have hw6 : Hid (Below w.heap.size w w6) := bstep hw5 hb6)
    | (go_at_call 17; (with_reducible refine (d3 _ hB6).mono ?_); rintro e w7 ⟨rfl, hb7⟩; have hC7 : ∀ o, w7.cell? ⟨w.heap.size, o, none⟩ = (#[Value.int .u64 a.mi, .int .u64 a.ho, .int .u64 a.da, .int .u64 a.mn, .int .u64 a.we, .bool a.ad, .bool a.aw, .int .u64 b.mi, .int .u64 b.ho, .int .u64 b.da, .int .u64 b.mn, .int .u64 b.we, .bool b.ad, .bool b.aw])[o]? := (fun o => ((bcell hb7).1 _ _ hz6).trans (hC6 o)); have hz7 : w.heap.size < w7.heap.size := (by have := hb7.size; omega); have hB7 : BdsAt w7 := hB6.below hb7 (Nat.le_refl _); have hT7 : TabIs64 w7 := hT6.below hb7 (Nat.le_refl _); have hw7 : Hid (Below w.heap.size w w7) := bstep hw6 hb7))
  · go_ret
    exact ⟨rfl, hw5⟩
  · have hr := Int.emod_nonneg at0 (show n - sec ≠ 0 by omega)
    have hr2 := Int.emod_lt_of_pos at0 (show 0 < n - sec by omega)
    have d4 := fun w hB => c4 (sec + at0 % (n - sec)) w hB (L4.out _ (by omega) (by omega)).1 (by simpa [InQ] using (L4.out _ (by omega) (by omega)).2)
    clear c4 L4
    have d8 := fun w => rest_any at0 (n - sec) w (by omega) (by omega)
    have e1 := wrap_in (n - sec) (by omega) (by omega)
    have e2 := wrap_in (sec + at0 % (n - sec)) (by omega) (by omega)
    rw [← e2] at d4
    generalize hE : at0 % (n - sec) = E at d4 d8 e2
    rw [← e1] at d8
    clear hr hr2 e1 e2 hE
    go_region_with (first | (go_at_call 16; (with_reducible refine (d8 _).mono ?_); rintro e w8 ⟨rfl, rfl⟩) | (go_at_call 17; (with_reducible refine (d4 _ (bdsD hB7)).mono ?_); rintro e w9 ⟨rfl, hb9⟩; have hw9 : Hid (Below w.heap.size w w9) := bstep hw7.out.drew hb9))
    all_goals
      go_wp2
      go_ret
      exact ⟨rfl, hw9⟩

set_option maxHeartbeats 16000000 in
theorem ed_out (a b : K) (sec shift at0 : Int) (w : World) (hB : BdsAt w) (hT : TabIs64 w) (ua : Us a) (ub : Us b) (ha : kc a = true) (hb : kc b = true) (ht : tmB sec = true) (hs : shB shift = true) (hin : ¬ InP (mt a) (mt b) (minOf sec shift) shift) :
    Calls Tryd.prog 7 #[spanV a b, .int .i64 sec, .int .i64 shift, .int .i64 at0] w fun e w' => e = .returned (.bool true) ∧ Below w.heap.size w w' := by
  have c1 := fun w hB hT => edge_out a b sec shift w hB hT ua ub ha hb ht hs hin
  have c2 := fun w hB => sin_false a b sec shift w hB ua ub ha hb ht hs hin
  have c3 := fun t w hB ht h => sin_true a b t shift w hB ua ub ha hb ht hs h
  have c4 := fun t w hB ht h => sin_false a b t shift w hB ua ub ha hb ht hs h
  have law := fun n => edge_lawQ (a := a) (b := b) (r := false) (shift := shift) (win_k ha) sec n
  have h1 := (tm_iff _).1 ht
  have HIN : InQ false a b (minOf sec shift) shift := by unfold InQ; simp [hin]
  clear ua ub ha hb ht hs hin
  go_enter Tryd.func7, Tryd.ntmps7
  go_wp2_with (first
    | (go_at_call 10; (with_reducible refine (daily8 _).mono ?_); rintro e w1 ⟨rfl, hb1⟩; have hC1 : ∀ o, w1.cell? ⟨w.heap.size, o, none⟩ = (#[Value.int .u64 a.mi, .int .u64 a.ho, .int .u64 a.da, .int .u64 a.mn, .int .u64 a.we, .bool a.ad, .bool a.aw, .int .u64 b.mi, .int .u64 b.ho, .int .u64 b.da, .int .u64 b.mn, .int .u64 b.we, .bool b.ad, .bool b.aw])[o]? := (fun o => by rw [(bcell hb1).1 _ _ (by simp)]; simp); have hz1 : w.heap.size < w1.heap.size := (by have := hb1.size; simp at this; omega); have hB1 : BdsAt w1 := (bdsA hB).below hb1 (Nat.le_refl _); have hT1 : TabIs64 w1 := (tabA hT).below hb1 (Nat.le_refl _); have hw1 : Hid (Below w.heap.size w w1) := (balloc _).trans (hb1.mono (by simp)))
    | (go_at_call 10; (with_reducible refine (daily18 _).mono ?_); rintro e w2 ⟨rfl, hb2⟩; have hC2 : ∀ o, w2.cell? ⟨w.heap.size, o, none⟩ = (#[Value.int .u64 a.mi, .int .u64 a.ho, .int .u64 a.da, .int .u64 a.mn, .int .u64 a.we, .bool a.ad, .bool a.aw, .int .u64 b.mi, .int .u64 b.ho, .int .u64 b.da, .int .u64 b.mn, .int .u64 b.we, .bool b.ad, .bool b.aw])[o]? := (fun o => ((bcell hb2).1 _ _ hz1).trans (hC1 o)); have hz2 : w.heap.size < w2.heap.size := (by have := hb2.size; omega); have hB2 : BdsAt w2 := hB1.below hb2 (Nat.le_refl _); have hT2 : TabIs64 w2 := hT1.below hb2 (Nat.le_refl _); have hw2 : Hid (Below w.heap.size w w2) := bstep hw1 hb2)
    | (go_at_call 17; (with_reducible refine (in_eight_c _ (bdsA hB2)).mono ?_); rintro e w3 ⟨rfl, hb3⟩; have hC3 : ∀ o, w3.cell? ⟨w.heap.size, o, none⟩ = (#[Value.int .u64 a.mi, .int .u64 a.ho, .int .u64 a.da, .int .u64 a.mn, .int .u64 a.we, .bool a.ad, .bool a.aw, .int .u64 b.mi, .int .u64 b.ho, .int .u64 b.da, .int .u64 b.mn, .int .u64 b.we, .bool b.ad, .bool b.aw])[o]? := (fun o => by rw [(bcell hb3).1 _ _ (by simp; omega), (bcell (balloc _)).1 _ _ hz2]; exact hC2 o); have hz3 : w.heap.size < w3.heap.size := (by have := hb3.size; simp at this; omega); have hB3 : BdsAt w3 := (bdsA hB2).below hb3 (Nat.le_refl _); have hT3 : TabIs64 w3 := (tabA hT2).below hb3 (Nat.le_refl _); have hw3 : Hid (Below w.heap.size w w3) := bstep hw2 ((balloc _).trans (hb3.mono (by simp))); have hD3 : ∀ o, w3.cell? ⟨w2.heap.size, o, none⟩ = (#[Value.int .u64 1, .int .u64 256, .int .u64 4294967294, .int .u64 8190, .int .u64 127, .bool true, .bool true, .int .u64 1, .int .u64 262144, .int .u64 4294967294, .int .u64 8190, .int .u64 127, .bool true, .bool true])[o]? := (fun o => by rw [(bcell hb3).1 _ _ (by simp)]; simp); have hy3 : w2.heap.size < w3.heap.size := (by have := hb3.size; simp at this; omega))
    | (go_at_call 18; (with_reducible refine (edge_nine_c _ hB3 hT3).mono ?_); rintro e w4 ⟨rfl, hb4⟩; have hC4 : ∀ o, w4.cell? ⟨w.heap.size, o, none⟩ = (#[Value.int .u64 a.mi, .int .u64 a.ho, .int .u64 a.da, .int .u64 a.mn, .int .u64 a.we, .bool a.ad, .bool a.aw, .int .u64 b.mi, .int .u64 b.ho, .int .u64 b.da, .int .u64 b.mn, .int .u64 b.we, .bool b.ad, .bool b.aw])[o]? := (fun o => ((bcell hb4).1 _ _ hz3).trans (hC3 o)); have hz4 : w.heap.size < w4.heap.size := (by have := hb4.size; omega); have hB4 : BdsAt w4 := hB3.below hb4 (Nat.le_refl _); have hT4 : TabIs64 w4 := hT3.below hb4 (Nat.le_refl _); have hw4 : Hid (Below w.heap.size w w4) := bstep hw3 hb4)
    | (go_at_call 18; (with_reducible refine (c1 _ hB4 hT4).mono ?_); rintro e w5 ⟨n, ok, rfl, hE0, hb5⟩; have hC5 : ∀ o, w5.cell? ⟨w.heap.size, o, none⟩ = (#[Value.int .u64 a.mi, .int .u64 a.ho, .int .u64 a.da, .int .u64 a.mn, .int .u64 a.we, .bool a.ad, .bool a.aw, .int .u64 b.mi, .int .u64 b.ho, .int .u64 b.da, .int .u64 b.mn, .int .u64 b.we, .bool b.ad, .bool b.aw])[o]? := (fun o => ((bcell hb5).1 _ _ hz4).trans (hC4 o)); have hz5 : w.heap.size < w5.heap.size := (by have := hb5.size; omega); have hB5 : BdsAt w5 := hB4.below hb5 (Nat.le_refl _); have hT5 : TabIs64 w5 := hT4.below hb5 (Nat.le_refl _); have hw5 : Hid (Below w.heap.size w w5) := bstep hw4 hb5; cases ok <;> go_loud (first | (obtain rfl := edge_f _ _ _ hE0; clear law hE0) | (have hl := law n hE0 HIN; clear law hE0; obtain ⟨l1, l2, l3, l4⟩ := hl; have hn1 := (tm_iff _).1 l2; have d3 := (fun w hB => c3 n w hB l2 (by simpa [InQ] using l3)); have L4 : Hid (∀ t, sec ≤ t → t < n → tmB t = true ∧ InQ false a b (minOf t shift) shift) := (fun t g1 g2 => ⟨(tm_iff _).2 (by omega), l4 t g1 g2⟩); clear l2 l3 l4 c3)))
    | (go_at_call 17; (with_reducible refine (c2 _ hB5).mono ?_); rintro e w6 ⟨rfl, hb6⟩; have hC6 : ∀ o, w6.cell? ⟨w.heap.size, o, none⟩ = (#[Value.int .u64 a.mi, .int .u64 a.ho, .int .u64 a.da, .int .u64 a.mn, .int .u64 a.we, .bool a.ad, .bool a.aw, .int .u64 b.mi, .int .u64 b.ho, .int .u64 b.da, .int .u64 b.mn, .int .u64 b.we, .bool b.ad, .bool b.aw])[o]? := (fun o => ((bcell hb6).1 _ _ hz5).trans (hC5 o)); have hz6 : w.heap.size < w6.heap.size := (by have := hb6.size; omega); have hB6 : BdsAt w6 := hB5.below hb6 (Nat.le_refl _); have hT6 : TabIs64 w6 := hT5.below hb6 (Nat.le_refl _); have hw6 : Hid (Below w.heap.size w w6) := bstep hw5 hb6)
    | (go_at_call 17; (with_reducible refine (d3 _ hB6).mono ?_); rintro e w7 ⟨rfl, hb7⟩; have hC7 : ∀ o, w7.cell? ⟨w.heap.size, o, none⟩ = (#[Value.int .u64 a.mi, .int .u64 a.ho, .int .u64 a.da, .int .u64 a.mn, .int .u64 a.we, .bool a.ad, .bool a.aw, .int .u64 b.mi, .int .u64 b.ho, .int .u64 b.da, .int .u64 b.mn, .int .u64 b.we, .bool b.ad, .bool b.aw])[o]? := (fun o => ((bcell hb7).1 _ _ hz6).trans (hC6 o)); have hz7 : w.heap.size < w7.heap.size := (by have := hb7.size; omega); have hB7 : BdsAt w7 := hB6.below hb7 (Nat.le_refl _); have hT7 : TabIs64 w7 := hT6.below hb7 (Nat.le_refl _); have hw7 : Hid (Below w.heap.size w w7) := bstep hw6 hb7))
  · go_ret
    exact ⟨rfl, hw5⟩
  · have hr := Int.emod_nonneg at0 (show n - sec ≠ 0 by omega)
    have hr2 := Int.emod_lt_of_pos at0 (show 0 < n - sec by omega)
    have d4 := fun w hB => c4 (sec + at0 % (n - sec)) w hB (L4.out _ (by omega) (by omega)).1 (by simpa [InQ] using (L4.out _ (by omega) (by omega)).2)
    clear c4 L4
    have d8 := fun w => rest_any at0 (n - sec) w (by omega) (by omega)
    have e1 := wrap_in (n - sec) (by omega) (by omega)
    have e2 := wrap_in (sec + at0 % (n - sec)) (by omega) (by omega)
    rw [← e2] at d4
    generalize hE : at0 % (n - sec) = E at d4 d8 e2
    rw [← e1] at d8
    clear hr hr2 e1 e2 hE
    go_region_with (first | (go_at_call 16; (with_reducible refine (d8 _).mono ?_); rintro e w8 ⟨rfl, rfl⟩) | (go_at_call 17; (with_reducible refine (d4 _ (bdsD hB7)).mono ?_); rintro e w9 ⟨rfl, hb9⟩; have hw9 : Hid (Below w.heap.size w w9) := bstep hw7.out.drew hb9))
    all_goals
      go_wp2
      go_ret
      exact ⟨rfl, hw9⟩
end Crn
end Go.Proofs.YtdigiomaggnjoaeDoor
