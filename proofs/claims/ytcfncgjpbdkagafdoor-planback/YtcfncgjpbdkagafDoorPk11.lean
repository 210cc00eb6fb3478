/- The law that plans come back: a plan whose text is too long. The law that plans come back: a plan that is not right. The law that plans come back: a plan whose text is read back. -/
import Derived.Test.YtcfncgjpbdkagafDoorPk10
namespace Go.Proofs.YtcfncgjpbdkagafDoor
namespace Pln
open Go.RowKit Lai Civ Crn Pie RCrn
set_option maxRecDepth 8000
set_option linter.unusedVariables false

set_option maxHeartbeats 4000000 in
theorem pb_L (p : Pd) (ts : List Tr) (a : Option Addr) (cap : Nat) (s : List UInt8) (w : World) (hG : Gd w) (hTr : TrsAt w a ts) (hlt : ts.length ≤ 9223372036854775807) (h1 : Long1 p ts) :
    Calls Tryd.prog 3 #[planV p (.slice a ts.length cap), strV s] w fun e w' => e = .returned (.bool true) ∧ Below w.heap.size w w' := by
  have c1 := fun o => (print_ok pa [] none 0 (w.alloc o) (hG.below (balloc o)).b (hG.below (balloc o)).t (hG.below (balloc o)).p pa_int (TrsAt.nil _ _) (fun t ht => by cases ht) pa_chk)
  rw [pa_text] at c1
  replace c1 : ∀ o, Calls Tryd.prog 4 #[.agg #[.string ⟨#[97]⟩, .int .i64 0, .int .i64 3, .int .i64 1, .int .i64 9, .int .i64 0, .int .i64 0, .int .i64 0, .int .i64 0, .int .i64 0, .int .i64 0, .int .i64 0, .int .i64 0, .int .i64 0, .int .i64 0, .int .i64 0, .int .i64 0, .slice none 0 0]] (w.alloc o) fun e w' => e = .returned (.tuple #[.string ⟨#[112, 108, 97, 110, 32, 97, 32, 48, 32, 51, 32, 49, 32, 57, 10, 114, 101, 115, 116, 32, 48, 32, 48, 32, 48, 32, 48, 10, 117, 112, 32, 48, 32, 48, 32, 48, 32, 48, 10, 100, 111, 119, 110, 32, 48, 32, 48, 32, 48, 32, 48, 10]⟩, .int .i64 0]) ∧ Below (w.alloc o).heap.size (w.alloc o) w' := c1
  have HG : Hid (∀ w', Below w.heap.size w w' → Gd w') := fun w' h => hG.below h
  have HT : Hid (∀ w', Below w.heap.size w w' → TrsAt w' a ts) := fun w' h => hTr.below h (Nat.le_refl _)
  obtain ⟨T, hT1, hT2, c2, c3⟩ := h1
  have hTs : (⟨T.toArray⟩ : ByteArray).size = T.length := rfl
  have hT3 : (2048 : Int) < T.length := by omega
  clear hT1
  unfold PrOk at c2; unfold PaBad at c3
  clear hG hTr
  go_enter Tryd.func3, Tryd.ntmps3
  go_wp2_with (first
    | (go_at_call 4; (with_reducible refine (c1 _).mono ?_); rintro e w1 ⟨rfl, hb1⟩; obtain ⟨hA1, hz1, hw1⟩ := boxB hb1; have hq1 : PlAt w1 w.heap.size p (.slice a ts.length cap) := PlAt.of hA1; clear hA1)
    | (with_reducible refine wp_plan hq1 (by with_unfolding_all rfl) ?_)
    | (go_at_call 4; (with_reducible refine (c2 a cap w1 (HG.out _ hw1) (HT.out _ hw1)).mono ?_); rintro e w2 ⟨rfl, hb2⟩; have hw2 := hw1.trans (hb2.mono hw1.size); have hq2 := hq1.on hb2 hz1; have hz2 := Nat.lt_of_lt_of_le hz1 hb2.size)
    | (go_at_call 5; (with_reducible refine (c3 w2 (HG.out _ hw2)).mono ?_); rintro e w3 ⟨rfl, hb3⟩; have hw3 := hw2.trans (hb3.mono hw2.size))
    | ((with_reducible refine wp_newPl (w := w3) (p' := p0) (v' := .slice none 0 0) rfl (by with_unfolding_all rfl) (by with_unfolding_all rfl) ?_); intro w4 hX4 hb4; have hw4 := hw3.trans (hb4.mono hw3.size)))
  all_goals
    go_ret
    exact ⟨rfl, hw4⟩
end Pln
end Go.Proofs.YtcfncgjpbdkagafDoor
namespace Go.Proofs.YtcfncgjpbdkagafDoor
namespace Pln
open Go.RowKit Lai Civ Crn Pie RCrn
set_option maxRecDepth 8000
set_option linter.unusedVariables false

set_option maxHeartbeats 4000000 in
theorem pb_BB (p : Pd) (ts : List Tr) (a : Option Addr) (cap : Nat) (s : List UInt8) (w : World) (hG : Gd w) (hTr : TrsAt w a ts) (hlt : ts.length ≤ 9223372036854775807) (h1 : Bad1 p ts a cap w) (h2 : ∃ n E : Int, 0 ≤ n ∧ n ≤ 10000 ∧ E ≠ 0 ∧ PaBad s n E) :
    Calls Tryd.prog 3 #[planV p (.slice a ts.length cap), strV s] w fun e w' => e = .returned (.bool true) ∧ Below w.heap.size w w' := by
  have c1 := fun o => (print_ok pa [] none 0 (w.alloc o) (hG.below (balloc o)).b (hG.below (balloc o)).t (hG.below (balloc o)).p pa_int (TrsAt.nil _ _) (fun t ht => by cases ht) pa_chk)
  rw [pa_text] at c1
  replace c1 : ∀ o, Calls Tryd.prog 4 #[.agg #[.string ⟨#[97]⟩, .int .i64 0, .int .i64 3, .int .i64 1, .int .i64 9, .int .i64 0, .int .i64 0, .int .i64 0, .int .i64 0, .int .i64 0, .int .i64 0, .int .i64 0, .int .i64 0, .int .i64 0, .int .i64 0, .int .i64 0, .int .i64 0, .slice none 0 0]] (w.alloc o) fun e w' => e = .returned (.tuple #[.string ⟨#[112, 108, 97, 110, 32, 97, 32, 48, 32, 51, 32, 49, 32, 57, 10, 114, 101, 115, 116, 32, 48, 32, 48, 32, 48, 32, 48, 10, 117, 112, 32, 48, 32, 48, 32, 48, 32, 48, 10, 100, 111, 119, 110, 32, 48, 32, 48, 32, 48, 32, 48, 10]⟩, .int .i64 0]) ∧ Below (w.alloc o).heap.size (w.alloc o) w' := c1
  have HG : Hid (∀ w', Below w.heap.size w w' → Gd w') := fun w' h => hG.below h
  have HT : Hid (∀ w', Below w.heap.size w w' → TrsAt w' a ts) := fun w' h => hTr.below h (Nat.le_refl _)
  obtain ⟨E2, hE2, c2⟩ := h1
  have e2 : (E2 == 0) = false := by rw [beq_eq_false_iff_ne]; exact hE2
  obtain ⟨n6, E6, hn6, hn6', hE6, c6⟩ := h2
  have e6 : (E6 != 0) = true := by rw [bne_iff_ne]; exact hE6
  have e6' : (E6 == 0) = false := by rw [beq_eq_false_iff_ne]; exact hE6
  unfold PrBad at c2 ; unfold PaBad at c6
  clear hG hTr
  go_enter Tryd.func3, Tryd.ntmps3
  go_wp2_with (first
    | (go_at_call 4; (with_reducible refine (c1 _).mono ?_); rintro e w1 ⟨rfl, hb1⟩; obtain ⟨hA1, hz1, hw1⟩ := boxB hb1; have hq1 : PlAt w1 w.heap.size p (.slice a ts.length cap) := PlAt.of hA1; clear hA1)
    | (with_reducible refine wp_plan hq1 (by with_unfolding_all rfl) ?_)
    | (go_at_call 4; (with_reducible refine (c2 _ hw1).mono ?_); rintro e w2 ⟨rfl, hb2⟩; have hw2 := hw1.trans (hb2.mono hw1.size))
    | (go_at_call 5; (with_reducible refine (c6 w2 (HG.out _ hw2)).mono ?_); rintro e w6 ⟨rfl, hb6⟩; have hw6 := hw2.trans (hb6.mono hw2.size))
    | ((with_reducible refine wp_newPl (w := w6) (p' := p0) (v' := .slice none 0 0) rfl (by with_unfolding_all rfl) (by with_unfolding_all rfl) ?_); intro w7 hX7 hb7; have hw7 := hw6.trans (hb7.mono hw6.size); have x7 : w7.cell? ⟨w6.heap.size, 0, none⟩ = some (.string ⟨#[]⟩) := hX7.cel 0))
  all_goals
    go_ret
    exact ⟨rfl, hw7⟩
set_option maxHeartbeats 4000000 in
theorem pb_BL (p : Pd) (ts : List Tr) (a : Option Addr) (cap : Nat) (s : List UInt8) (w : World) (hG : Gd w) (hTr : TrsAt w a ts) (hlt : ts.length ≤ 9223372036854775807) (h1 : Bad1 p ts a cap w) (h2 : ∃ p2 ts2, PaOk s p2 ts2 ∧ Long1 p2 ts2) :
    Calls Tryd.prog 3 #[planV p (.slice a ts.length cap), strV s] w fun e w' => e = .returned (.bool true) ∧ Below w.heap.size w w' := by
  have c1 := fun o => (print_ok pa [] none 0 (w.alloc o) (hG.below (balloc o)).b (hG.below (balloc o)).t (hG.below (balloc o)).p pa_int (TrsAt.nil _ _) (fun t ht => by cases ht) pa_chk)
  rw [pa_text] at c1
  replace c1 : ∀ o, Calls Tryd.prog 4 #[.agg #[.string ⟨#[97]⟩, .int .i64 0, .int .i64 3, .int .i64 1, .int .i64 9, .int .i64 0, .int .i64 0, .int .i64 0, .int .i64 0, .int .i64 0, .int .i64 0, .int .i64 0, .int .i64 0, .int .i64 0, .int .i64 0, .int .i64 0, .int .i64 0, .slice none 0 0]] (w.alloc o) fun e w' => e = .returned (.tuple #[.string ⟨#[112, 108, 97, 110, 32, 97, 32, 48, 32, 51, 32, 49, 32, 57, 10, 114, 101, 115, 116, 32, 48, 32, 48, 32, 48, 32, 48, 10, 117, 112, 32, 48, 32, 48, 32, 48, 32, 48, 10, 100, 111, 119, 110, 32, 48, 32, 48, 32, 48, 32, 48, 10]⟩, .int .i64 0]) ∧ Below (w.alloc o).heap.size (w.alloc o) w' := c1
  have HG : Hid (∀ w', Below w.heap.size w w' → Gd w') := fun w' h => hG.below h
  have HT : Hid (∀ w', Below w.heap.size w w' → TrsAt w' a ts) := fun w' h => hTr.below h (Nat.le_refl _)
  obtain ⟨E2, hE2, c2⟩ := h1
  have e2 : (E2 == 0) = false := by rw [beq_eq_false_iff_ne]; exact hE2
  obtain ⟨p2, ts2, c6, h2⟩ := h2
  obtain ⟨U, hU1, hU2, c8, c9⟩ := h2
  unfold PrBad at c2 ; unfold PaOk at c6; unfold PrOk at c8; unfold PaBad at c9
  clear hG hTr
  go_enter Tryd.func3, Tryd.ntmps3
  go_wp2_with (first
    | (go_at_call 4; (with_reducible refine (c1 _).mono ?_); rintro e w1 ⟨rfl, hb1⟩; obtain ⟨hA1, hz1, hw1⟩ := boxB hb1; have hq1 : PlAt w1 w.heap.size p (.slice a ts.length cap) := PlAt.of hA1; clear hA1)
    | (with_reducible refine wp_plan hq1 (by with_unfolding_all rfl) ?_)
    | (go_at_call 4; (with_reducible refine (c2 _ hw1).mono ?_); rintro e w2 ⟨rfl, hb2⟩; have hw2 := hw1.trans (hb2.mono hw1.size))
    | (go_at_call 5; (with_reducible refine (c6 w2 (HG.out _ hw2)).mono ?_); rintro e w6 ⟨⟨a6, k6, rfl, hT6⟩, hb6⟩; have hw6 := hw2.trans (hb6.mono hw2.size))
    | ((with_reducible refine wp_newPl (w := w6) (p' := p2) (v' := .slice a6 ts2.length k6) rfl (by with_unfolding_all rfl) (by with_unfolding_all rfl) ?_); intro w7 hX7 hb7; have hw7 := hw6.trans (hb7.mono hw6.size); have hA7 := hX7.plat; have hT7 := hT6.below hb7 (Nat.le_refl _); have hz7 := hX7.lt)
    | (with_reducible refine wp_plan hA7 (by with_unfolding_all rfl) ?_)
    | (go_at_call 4; (with_reducible refine (c8 a6 k6 w7 (HG.out _ hw7) hT7).mono ?_); rintro e w8 ⟨rfl, hb8⟩; have hw8 := hw7.trans (hb8.mono hw7.size); have hA8 := hA7.on hb8 hz7; have hT8 := hT7.below hb8 (Nat.le_refl _); have hz8 := Nat.lt_of_lt_of_le hz7 hb8.size)
    | (go_at_call 5; (with_reducible refine (c9 w8 (HG.out _ hw8)).mono ?_); rintro e w9 ⟨rfl, hb9⟩; have hw9 := hw8.trans (hb9.mono hw8.size))
    | ((with_reducible refine wp_newPl (w := w9) (p' := p0) (v' := .slice none 0 0) rfl (by with_unfolding_all rfl) (by with_unfolding_all rfl) ?_); intro w10 hX10 hb10; have hw10 := hw9.trans (hb10.mono hw9.size)))
  all_goals
    go_ret
    exact ⟨rfl, hw10⟩
set_option maxHeartbeats 4000000 in
theorem pb_BS (p : Pd) (ts : List Tr) (a : Option Addr) (cap : Nat) (s : List UInt8) (w : World) (hG : Gd w) (hTr : TrsAt w a ts) (hlt : ts.length ≤ 9223372036854775807) (h1 : Bad1 p ts a cap w) (h2 : ∃ p2 ts2, PaOk s p2 ts2 ∧ Short1 p2 ts2) :
    Calls Tryd.prog 3 #[planV p (.slice a ts.length cap), strV s] w fun e w' => e = .returned (.bool true) ∧ Below w.heap.size w w' := by
  have c1 := fun o => (print_ok pa [] none 0 (w.alloc o) (hG.below (balloc o)).b (hG.below (balloc o)).t (hG.below (balloc o)).p pa_int (TrsAt.nil _ _) (fun t ht => by cases ht) pa_chk)
  rw [pa_text] at c1
  replace c1 : ∀ o, Calls Tryd.prog 4 #[.agg #[.string ⟨#[97]⟩, .int .i64 0, .int .i64 3, .int .i64 1, .int .i64 9, .int .i64 0, .int .i64 0, .int .i64 0, .int .i64 0, .int .i64 0, .int .i64 0, .int .i64 0, .int .i64 0, .int .i64 0, .int .i64 0, .int .i64 0, .int .i64 0, .slice none 0 0]] (w.alloc o) fun e w' => e = .returned (.tuple #[.string ⟨#[112, 108, 97, 110, 32, 97, 32, 48, 32, 51, 32, 49, 32, 57, 10, 114, 101, 115, 116, 32, 48, 32, 48, 32, 48, 32, 48, 10, 117, 112, 32, 48, 32, 48, 32, 48, 32, 48, 10, 100, 111, 119, 110, 32, 48, 32, 48, 32, 48, 32, 48, 10]⟩, .int .i64 0]) ∧ Below (w.alloc o).heap.size (w.alloc o) w' := c1
  have HG : Hid (∀ w', Below w.heap.size w w' → Gd w') := fun w' h => hG.below h
  have HT : Hid (∀ w', Below w.heap.size w w' → TrsAt w' a ts) := fun w' h => hTr.below h (Nat.le_refl _)
  obtain ⟨E2, hE2, c2⟩ := h1
  have e2 : (E2 == 0) = false := by rw [beq_eq_false_iff_ne]; exact hE2
  obtain ⟨p2, ts2, c6, h2⟩ := h2
  obtain ⟨U, hU1, hU2, c8, c9⟩ := h2
  have hl2 : ts2.length ≤ 9223372036854775807 := by omega
  unfold PrBad at c2 ; unfold PaOk at c6 c9; unfold PrOk at c8
  clear hG hTr
  go_enter Tryd.func3, Tryd.ntmps3
  go_wp2_with (first
    | (go_at_call 4; (with_reducible refine (c1 _).mono ?_); rintro e w1 ⟨rfl, hb1⟩; obtain ⟨hA1, hz1, hw1⟩ := boxB hb1; have hq1 : PlAt w1 w.heap.size p (.slice a ts.length cap) := PlAt.of hA1; clear hA1)
    | (with_reducible refine wp_plan hq1 (by with_unfolding_all rfl) ?_)
    | (go_at_call 4; (with_reducible refine (c2 _ hw1).mono ?_); rintro e w2 ⟨rfl, hb2⟩; have hw2 := hw1.trans (hb2.mono hw1.size))
    | (go_at_call 5; (with_reducible refine (c6 w2 (HG.out _ hw2)).mono ?_); rintro e w6 ⟨⟨a6, k6, rfl, hT6⟩, hb6⟩; have hw6 := hw2.trans (hb6.mono hw2.size))
    | ((with_reducible refine wp_newPl (w := w6) (p' := p2) (v' := .slice a6 ts2.length k6) rfl (by with_unfolding_all rfl) (by with_unfolding_all rfl) ?_); intro w7 hX7 hb7; have hw7 := hw6.trans (hb7.mono hw6.size); have hA7 := hX7.plat; have hT7 := hT6.below hb7 (Nat.le_refl _); have hz7 := hX7.lt)
    | (with_reducible refine wp_plan hA7 (by with_unfolding_all rfl) ?_)
    | (go_at_call 4; (with_reducible refine (c8 a6 k6 w7 (HG.out _ hw7) hT7).mono ?_); rintro e w8 ⟨rfl, hb8⟩; have hw8 := hw7.trans (hb8.mono hw7.size); have hA8 := hA7.on hb8 hz7; have hT8 := hT7.below hb8 (Nat.le_refl _); have hz8 := Nat.lt_of_lt_of_le hz7 hb8.size)
    | (go_at_call 5; (with_reducible refine (c9 w8 (HG.out _ hw8)).mono ?_); rintro e w9 ⟨⟨a9, k9, rfl, hT9⟩, hb9⟩; have hw9 := hw8.trans (hb9.mono hw8.size); have hA9 := hA8.on hb9 hz8; have hT9a := hT8.below hb9 (Nat.le_refl _); have hz9 := Nat.lt_of_lt_of_le hz8 hb9.size)
    | ((with_reducible refine wp_newPl (w := w9) (p' := p2) (v' := .slice a9 ts2.length k9) rfl (by with_unfolding_all rfl) (by with_unfolding_all rfl) ?_); intro w10 hX10 hb10; have hw10 := hw9.trans (hb10.mono hw9.size); have hA10 := hX10.plat; have hB10 := hA9.on hb10 hz9; have hT10 := hT9.below hb10 (Nat.le_refl _); have hT10a := hT9a.below hb10 (Nat.le_refl _))
    | (with_reducible refine wp_planG hA10 (by with_unfolding_all rfl) (by with_unfolding_all rfl) ?_)
    | (with_reducible refine wp_planG hB10 (by with_unfolding_all rfl) (by with_unfolding_all rfl) ?_)
    | (go_at_call 7; (with_reducible refine (same_any p2 ts2 a6 a9 k6 k9 w10 hT10a hT10 hl2).mono ?_); rintro e w11 ⟨rfl, hb11⟩; have hw11 := hw10.trans (hb11.mono hw10.size)))
  all_goals
    go_ret
    exact ⟨rfl, hw11⟩
end Pln
end Go.Proofs.YtcfncgjpbdkagafDoor
namespace Go.Proofs.YtcfncgjpbdkagafDoor
namespace Pln
open Go.RowKit Lai Civ Crn Pie RCrn
set_option maxRecDepth 8000
set_option linter.unusedVariables false

set_option maxHeartbeats 4000000 in
theorem pb_SB (p : Pd) (ts : List Tr) (a : Option Addr) (cap : Nat) (s : List UInt8) (w : World) (hG : Gd w) (hTr : TrsAt w a ts) (hlt : ts.length ≤ 9223372036854775807) (h1 : Short1 p ts) (h2 : ∃ n E : Int, 0 ≤ n ∧ n ≤ 10000 ∧ E ≠ 0 ∧ PaBad s n E) :
    Calls Tryd.prog 3 #[planV p (.slice a ts.length cap), strV s] w fun e w' => e = .returned (.bool true) ∧ Below w.heap.size w w' := by
  have c1 := fun o => (print_ok pa [] none 0 (w.alloc o) (hG.below (balloc o)).b (hG.below (balloc o)).t (hG.below (balloc o)).p pa_int (TrsAt.nil _ _) (fun t ht => by cases ht) pa_chk)
  rw [pa_text] at c1
  replace c1 : ∀ o, Calls Tryd.prog 4 #[.agg #[.string ⟨#[97]⟩, .int .i64 0, .int .i64 3, .int .i64 1, .int .i64 9, .int .i64 0, .int .i64 0, .int .i64 0, .int .i64 0, .int .i64 0, .int .i64 0, .int .i64 0, .int .i64 0, .int .i64 0, .int .i64 0, .int .i64 0, .int .i64 0, .slice none 0 0]] (w.alloc o) fun e w' => e = .returned (.tuple #[.string ⟨#[112, 108, 97, 110, 32, 97, 32, 48, 32, 51, 32, 49, 32, 57, 10, 114, 101, 115, 116, 32, 48, 32, 48, 32, 48, 32, 48, 10, 117, 112, 32, 48, 32, 48, 32, 48, 32, 48, 10, 100, 111, 119, 110, 32, 48, 32, 48, 32, 48, 32, 48, 10]⟩, .int .i64 0]) ∧ Below (w.alloc o).heap.size (w.alloc o) w' := c1
  have HG : Hid (∀ w', Below w.heap.size w w' → Gd w') := fun w' h => hG.below h
  have HT : Hid (∀ w', Below w.heap.size w w' → TrsAt w' a ts) := fun w' h => hTr.below h (Nat.le_refl _)
  obtain ⟨T, hT1, _, c2, c3⟩ := h1
  have hTs : (⟨T.toArray⟩ : ByteArray).size = T.length := rfl
  have hT3 : ¬ (2048 : Int) < T.length := by omega
  obtain ⟨n6, E6, hn6, hn6', hE6, c6⟩ := h2
  have e6 : (E6 != 0) = true := by rw [bne_iff_ne]; exact hE6
  have e6' : (E6 == 0) = false := by rw [beq_eq_false_iff_ne]; exact hE6
  unfold PrOk at c2; unfold PaOk at c3 ; unfold PaBad at c6
  clear hG hTr
  go_enter Tryd.func3, Tryd.ntmps3
  go_wp2_with (first
    | (go_at_call 4; (with_reducible refine (c1 _).mono ?_); rintro e w1 ⟨rfl, hb1⟩; obtain ⟨hA1, hz1, hw1⟩ := boxB hb1; have hq1 : PlAt w1 w.heap.size p (.slice a ts.length cap) := PlAt.of hA1; clear hA1)
    | (with_reducible refine wp_plan hq1 (by with_unfolding_all rfl) ?_)
    | (go_at_call 4; (with_reducible refine (c2 a cap w1 (HG.out _ hw1) (HT.out _ hw1)).mono ?_); rintro e w2 ⟨rfl, hb2⟩; have hw2 := hw1.trans (hb2.mono hw1.size); have hq2 := hq1.on hb2 hz1; have hz2 := Nat.lt_of_lt_of_le hz1 hb2.size)
    | (go_at_call 5; (with_reducible refine (c3 w2 (HG.out _ hw2)).mono ?_); rintro e w3 ⟨⟨a3, k3, rfl, hT3r⟩, hb3⟩; have hw3 := hw2.trans (hb3.mono hw2.size); have hq3 := hq2.on hb3 hz2; have hz3 := Nat.lt_of_lt_of_le hz2 hb3.size)
    | ((with_reducible refine wp_newPl (w := w3) (p' := p) (v' := .slice a3 ts.length k3) rfl (by with_unfolding_all rfl) (by with_unfolding_all rfl) ?_); intro w4 hX4 hb4; have hw4 := hw3.trans (hb4.mono hw3.size); have hq4 := hq3.on hb4 hz3; have hA4 := hX4.plat; have hT4r := hT3r.below hb4 (Nat.le_refl _); have hT4a := HT.out _ hw4)
    | (with_reducible refine wp_planG hA4 (by with_unfolding_all rfl) (by with_unfolding_all rfl) ?_)
    | (with_reducible refine wp_planG hq4 (by with_unfolding_all rfl) (by with_unfolding_all rfl) ?_)
    | (go_at_call 7; (with_reducible refine (same_any p ts a3 a k3 cap w4 hT4r hT4a hlt).mono ?_); rintro e w5 ⟨rfl, hb5⟩; have hw5 := hw4.trans (hb5.mono hw4.size))
    | (go_at_call 5; (with_reducible refine (c6 w5 (HG.out _ hw5)).mono ?_); rintro e w6 ⟨rfl, hb6⟩; have hw6 := hw5.trans (hb6.mono hw5.size))
    | ((with_reducible refine wp_newPl (w := w6) (p' := p0) (v' := .slice none 0 0) rfl (by with_unfolding_all rfl) (by with_unfolding_all rfl) ?_); intro w7 hX7 hb7; have hw7 := hw6.trans (hb7.mono hw6.size); have x7 : w7.cell? ⟨w6.heap.size, 0, none⟩ = some (.string ⟨#[]⟩) := hX7.cel 0))
  all_goals
    go_ret
    exact ⟨rfl, hw7⟩
set_option maxHeartbeats 4000000 in
theorem pb_SL (p : Pd) (ts : List Tr) (a : Option Addr) (cap : Nat) (s : List UInt8) (w : World) (hG : Gd w) (hTr : TrsAt w a ts) (hlt : ts.length ≤ 9223372036854775807) (h1 : Short1 p ts) (h2 : ∃ p2 ts2, PaOk s p2 ts2 ∧ Long1 p2 ts2) :
    Calls Tryd.prog 3 #[planV p (.slice a ts.length cap), strV s] w fun e w' => e = .returned (.bool true) ∧ Below w.heap.size w w' := by
  have c1 := fun o => (print_ok pa [] none 0 (w.alloc o) (hG.below (balloc o)).b (hG.below (balloc o)).t (hG.below (balloc o)).p pa_int (TrsAt.nil _ _) (fun t ht => by cases ht) pa_chk)
  rw [pa_text] at c1
  replace c1 : ∀ o, Calls Tryd.prog 4 #[.agg #[.string ⟨#[97]⟩, .int .i64 0, .int .i64 3, .int .i64 1, .int .i64 9, .int .i64 0, .int .i64 0, .int .i64 0, .int .i64 0, .int .i64 0, .int .i64 0, .int .i64 0, .int .i64 0, .int .i64 0, .int .i64 0, .int .i64 0, .int .i64 0, .slice none 0 0]] (w.alloc o) fun e w' => e = .returned (.tuple #[.string ⟨#[112, 108, 97, 110, 32, 97, 32, 48, 32, 51, 32, 49, 32, 57, 10, 114, 101, 115, 116, 32, 48, 32, 48, 32, 48, 32, 48, 10, 117, 112, 32, 48, 32, 48, 32, 48, 32, 48, 10, 100, 111, 119, 110, 32, 48, 32, 48, 32, 48, 32, 48, 10]⟩, .int .i64 0]) ∧ Below (w.alloc o).heap.size (w.alloc o) w' := c1
  have HG : Hid (∀ w', Below w.heap.size w w' → Gd w') := fun w' h => hG.below h
  have HT : Hid (∀ w', Below w.heap.size w w' → TrsAt w' a ts) := fun w' h => hTr.below h (Nat.le_refl _)
  obtain ⟨T, hT1, _, c2, c3⟩ := h1
  have hTs : (⟨T.toArray⟩ : ByteArray).size = T.length := rfl
  have hT3 : ¬ (2048 : Int) < T.length := by omega
  obtain ⟨p2, ts2, c6, h2⟩ := h2
  obtain ⟨U, hU1, hU2, c8, c9⟩ := h2
  unfold PrOk at c2; unfold PaOk at c3 ; unfold PaOk at c6; unfold PrOk at c8; unfold PaBad at c9
  clear hG hTr
  go_enter Tryd.func3, Tryd.ntmps3
  go_wp2_with (first
    | (go_at_call 4; (with_reducible refine (c1 _).mono ?_); rintro e w1 ⟨rfl, hb1⟩; obtain ⟨hA1, hz1, hw1⟩ := boxB hb1; have hq1 : PlAt w1 w.heap.size p (.slice a ts.length cap) := PlAt.of hA1; clear hA1)
    | (with_reducible refine wp_plan hq1 (by with_unfolding_all rfl) ?_)
    | (go_at_call 4; (with_reducible refine (c2 a cap w1 (HG.out _ hw1) (HT.out _ hw1)).mono ?_); rintro e w2 ⟨rfl, hb2⟩; have hw2 := hw1.trans (hb2.mono hw1.size); have hq2 := hq1.on hb2 hz1; have hz2 := Nat.lt_of_lt_of_le hz1 hb2.size)
    | (go_at_call 5; (with_reducible refine (c3 w2 (HG.out _ hw2)).mono ?_); rintro e w3 ⟨⟨a3, k3, rfl, hT3r⟩, hb3⟩; have hw3 := hw2.trans (hb3.mono hw2.size); have hq3 := hq2.on hb3 hz2; have hz3 := Nat.lt_of_lt_of_le hz2 hb3.size)
    | ((with_reducible refine wp_newPl (w := w3) (p' := p) (v' := .slice a3 ts.length k3) rfl (by with_unfolding_all rfl) (by with_unfolding_all rfl) ?_); intro w4 hX4 hb4; have hw4 := hw3.trans (hb4.mono hw3.size); have hq4 := hq3.on hb4 hz3; have hA4 := hX4.plat; have hT4r := hT3r.below hb4 (Nat.le_refl _); have hT4a := HT.out _ hw4)
    | (with_reducible refine wp_planG hA4 (by with_unfolding_all rfl) (by with_unfolding_all rfl) ?_)
    | (with_reducible refine wp_planG hq4 (by with_unfolding_all rfl) (by with_unfolding_all rfl) ?_)
    | (go_at_call 7; (with_reducible refine (same_any p ts a3 a k3 cap w4 hT4r hT4a hlt).mono ?_); rintro e w5 ⟨rfl, hb5⟩; have hw5 := hw4.trans (hb5.mono hw4.size))
    | (go_at_call 5; (with_reducible refine (c6 w5 (HG.out _ hw5)).mono ?_); rintro e w6 ⟨⟨a6, k6, rfl, hT6⟩, hb6⟩; have hw6 := hw5.trans (hb6.mono hw5.size))
    | ((with_reducible refine wp_newPl (w := w6) (p' := p2) (v' := .slice a6 ts2.length k6) rfl (by with_unfolding_all rfl) (by with_unfolding_all rfl) ?_); intro w7 hX7 hb7; have hw7 := hw6.trans (hb7.mono hw6.size); have hA7 := hX7.plat; have hT7 := hT6.below hb7 (Nat.le_refl _); have hz7 := hX7.lt)
    | (with_reducible refine wp_plan hA7 (by with_unfolding_all rfl) ?_)
    | (go_at_call 4; (with_reducible refine (c8 a6 k6 w7 (HG.out _ hw7) hT7).mono ?_); rintro e w8 ⟨rfl, hb8⟩; have hw8 := hw7.trans (hb8.mono hw7.size); have hA8 := hA7.on hb8 hz7; have hT8 := hT7.below hb8 (Nat.le_refl _); have hz8 := Nat.lt_of_lt_of_le hz7 hb8.size)
    | (go_at_call 5; (with_reducible refine (c9 w8 (HG.out _ hw8)).mono ?_); rintro e w9 ⟨rfl, hb9⟩; have hw9 := hw8.trans (hb9.mono hw8.size))
    | ((with_reducible refine wp_newPl (w := w9) (p' := p0) (v' := .slice none 0 0) rfl (by with_unfolding_all rfl) (by with_unfolding_all rfl) ?_); intro w10 hX10 hb10; have hw10 := hw9.trans (hb10.mono hw9.size)))
  all_goals
    go_ret
    exact ⟨rfl, hw10⟩
set_option maxHeartbeats 4000000 in
theorem pb_SS (p : Pd) (ts : List Tr) (a : Option Addr) (cap : Nat) (s : List UInt8) (w : World) (hG : Gd w) (hTr : TrsAt w a ts) (hlt : ts.length ≤ 9223372036854775807) (h1 : Short1 p ts) (h2 : ∃ p2 ts2, PaOk s p2 ts2 ∧ Short1 p2 ts2) :
    Calls Tryd.prog 3 #[planV p (.slice a ts.length cap), strV s] w fun e w' => e = .returned (.bool true) ∧ Below w.heap.size w w' := by
  have c1 := fun o => (print_ok pa [] none 0 (w.alloc o) (hG.below (balloc o)).b (hG.below (balloc o)).t (hG.below (balloc o)).p pa_int (TrsAt.nil _ _) (fun t ht => by cases ht) pa_chk)
  rw [pa_text] at c1
  replace c1 : ∀ o, Calls Tryd.prog 4 #[.agg #[.string ⟨#[97]⟩, .int .i64 0, .int .i64 3, .int .i64 1, .int .i64 9, .int .i64 0, .int .i64 0, .int .i64 0, .int .i64 0, .int .i64 0, .int .i64 0, .int .i64 0, .int .i64 0, .int .i64 0, .int .i64 0, .int .i64 0, .int .i64 0, .slice none 0 0]] (w.alloc o) fun e w' => e = .returned (.tuple #[.string ⟨#[112, 108, 97, 110, 32, 97, 32, 48, 32, 51, 32, 49, 32, 57, 10, 114, 101, 115, 116, 32, 48, 32, 48, 32, 48, 32, 48, 10, 117, 112, 32, 48, 32, 48, 32, 48, 32, 48, 10, 100, 111, 119, 110, 32, 48, 32, 48, 32, 48, 32, 48, 10]⟩, .int .i64 0]) ∧ Below (w.alloc o).heap.size (w.alloc o) w' := c1
  have HG : Hid (∀ w', Below w.heap.size w w' → Gd w') := fun w' h => hG.below h
  have HT : Hid (∀ w', Below w.heap.size w w' → TrsAt w' a ts) := fun w' h => hTr.below h (Nat.le_refl _)
  obtain ⟨T, hT1, _, c2, c3⟩ := h1
  have hTs : (⟨T.toArray⟩ : ByteArray).size = T.length := rfl
  have hT3 : ¬ (2048 : Int) < T.length := by omega
  obtain ⟨p2, ts2, c6, h2⟩ := h2
  obtain ⟨U, hU1, hU2, c8, c9⟩ := h2
  have hl2 : ts2.length ≤ 9223372036854775807 := by omega
  unfold PrOk at c2; unfold PaOk at c3 ; unfold PaOk at c6 c9; unfold PrOk at c8
  clear hG hTr
  go_enter Tryd.func3, Tryd.ntmps3
  go_wp2_with (first
    | (go_at_call 4; (with_reducible refine (c1 _).mono ?_); rintro e w1 ⟨rfl, hb1⟩; obtain ⟨hA1, hz1, hw1⟩ := boxB hb1; have hq1 : PlAt w1 w.heap.size p (.slice a ts.length cap) := PlAt.of hA1; clear hA1)
    | (with_reducible refine wp_plan hq1 (by with_unfolding_all rfl) ?_)
    | (go_at_call 4; (with_reducible refine (c2 a cap w1 (HG.out _ hw1) (HT.out _ hw1)).mono ?_); rintro e w2 ⟨rfl, hb2⟩; have hw2 := hw1.trans (hb2.mono hw1.size); have hq2 := hq1.on hb2 hz1; have hz2 := Nat.lt_of_lt_of_le hz1 hb2.size)
    | (go_at_call 5; (with_reducible refine (c3 w2 (HG.out _ hw2)).mono ?_); rintro e w3 ⟨⟨a3, k3, rfl, hT3r⟩, hb3⟩; have hw3 := hw2.trans (hb3.mono hw2.size); have hq3 := hq2.on hb3 hz2; have hz3 := Nat.lt_of_lt_of_le hz2 hb3.size)
    | ((with_reducible refine wp_newPl (w := w3) (p' := p) (v' := .slice a3 ts.length k3) rfl (by with_unfolding_all rfl) (by with_unfolding_all rfl) ?_); intro w4 hX4 hb4; have hw4 := hw3.trans (hb4.mono hw3.size); have hq4 := hq3.on hb4 hz3; have hA4 := hX4.plat; have hT4r := hT3r.below hb4 (Nat.le_refl _); have hT4a := HT.out _ hw4)
    | (with_reducible refine wp_planG hA4 (by with_unfolding_all rfl) (by with_unfolding_all rfl) ?_)
    | (with_reducible refine wp_planG hq4 (by with_unfolding_all rfl) (by with_unfolding_all rfl) ?_)
    | (go_at_call 7; (with_reducible refine (same_any p ts a3 a k3 cap w4 hT4r hT4a hlt).mono ?_); rintro e w5 ⟨rfl, hb5⟩; have hw5 := hw4.trans (hb5.mono hw4.size))
    | (go_at_call 5; (with_reducible refine (c6 w5 (HG.out _ hw5)).mono ?_); rintro e w6 ⟨⟨a6, k6, rfl, hT6⟩, hb6⟩; have hw6 := hw5.trans (hb6.mono hw5.size))
    | ((with_reducible refine wp_newPl (w := w6) (p' := p2) (v' := .slice a6 ts2.length k6) rfl (by with_unfolding_all rfl) (by with_unfolding_all rfl) ?_); intro w7 hX7 hb7; have hw7 := hw6.trans (hb7.mono hw6.size); have hA7 := hX7.plat; have hT7 := hT6.below hb7 (Nat.le_refl _); have hz7 := hX7.lt)
    | (with_reducible refine wp_plan hA7 (by with_unfolding_all rfl) ?_)
    | (go_at_call 4; (with_reducible refine (c8 a6 k6 w7 (HG.out _ hw7) hT7).mono ?_); rintro e w8 ⟨rfl, hb8⟩; have hw8 := hw7.trans (hb8.mono hw7.size); have hA8 := hA7.on hb8 hz7; have hT8 := hT7.below hb8 (Nat.le_refl _); have hz8 := Nat.lt_of_lt_of_le hz7 hb8.size)
    | (go_at_call 5; (with_reducible refine (c9 w8 (HG.out _ hw8)).mono ?_); rintro e w9 ⟨⟨a9, k9, rfl, hT9⟩, hb9⟩; have hw9 := hw8.trans (hb9.mono hw8.size); have hA9 := hA8.on hb9 hz8; have hT9a := hT8.below hb9 (Nat.le_refl _); have hz9 := Nat.lt_of_lt_of_le hz8 hb9.size)
    | ((with_reducible refine wp_newPl (w := w9) (p' := p2) (v' := .slice a9 ts2.length k9) rfl (by with_unfolding_all rfl) (by with_unfolding_all rfl) ?_); intro w10 hX10 hb10; have hw10 := hw9.trans (hb10.mono hw9.size); have hA10 := hX10.plat; have hB10 := hA9.on hb10 hz9; have hT10 := hT9.below hb10 (Nat.le_refl _); have hT10a := hT9a.below hb10 (Nat.le_refl _))
    | (with_reducible refine wp_planG hA10 (by with_unfolding_all rfl) (by with_unfolding_all rfl) ?_)
    | (with_reducible refine wp_planG hB10 (by with_unfolding_all rfl) (by with_unfolding_all rfl) ?_)
    | (go_at_call 7; (with_reducible refine (same_any p2 ts2 a6 a9 k6 k9 w10 hT10a hT10 hl2).mono ?_); rintro e w11 ⟨rfl, hb11⟩; have hw11 := hw10.trans (hb11.mono hw10.size)))
  all_goals
    go_ret
    exact ⟨rfl, hw11⟩
end Pln
end Go.Proofs.YtcfncgjpbdkagafDoor
