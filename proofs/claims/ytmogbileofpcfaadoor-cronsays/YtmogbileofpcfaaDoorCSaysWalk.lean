/- The law of a cron's text and its matching, walked. -/
import Derived.Test.YtmogbileofpcfaaDoorRefText
import Derived.Test.YtmogbileofpcfaaDoorCronMatch3
namespace Go.Proofs.YtmogbileofpcfaaDoor
namespace RCrn
open Go.RowKit Lai Civ Cal Crn RCiv
set_option maxRecDepth 8000

theorem box_two (w : World) (A B : Array Value) (ta tb : TypeId) : (∀ o, ((w.alloc (.cells A ta)).alloc (.cells B tb)).cell? ⟨w.heap.size, o, none⟩ = A[o]?) ∧ (∀ o, ((w.alloc (.cells A ta)).alloc (.cells B tb)).cell? ⟨w.heap.size + 1, o, none⟩ = B[o]?) ∧
    w.heap.size + 1 < ((w.alloc (.cells A ta)).alloc (.cells B tb)).heap.size ∧ Below w.heap.size w ((w.alloc (.cells A ta)).alloc (.cells B tb)) := by
  refine ⟨fun o => ?_, fun o => ?_, by simp, (balloc _).trans (((Below.refl _ _).alloc (Nat.le_refl _) _).mono (by simp))⟩
  · rw [(bcell (balloc _)).1 _ _ (by simp)]; simp
  · have e : w.heap.size + 1 = (w.alloc (.cells A ta)).heap.size := by simp
    rw [e]; simp
theorem cells_on {W w' : World} {N : Nat} {A : Array Value} (h : ∀ o, W.cell? ⟨N, o, none⟩ = A[o]?) (hb : Below W.heap.size W w') (hN : N < W.heap.size) : ∀ o, w'.cell? ⟨N, o, none⟩ = A[o]? :=
  fun o => (hb.cell (p := ⟨N, o, none⟩) hN).trans (h o)

theorem bel_drew {w w' : World} (h : Below w.drew.heap.size w.drew w') : Below w.heap.size w w' := ⟨h.os, h.tape, h.output, h.size, h.block⟩
theorem print_no (mi ho da mn we : Int) (ad aw : Bool) (w : World) (hB : BdsAt w) (hc : chkB mi ho da mn we ad aw = false) :
    Calls Tryd.prog 9 #[cronV mi ho da mn we ad aw] w fun e w' => e = .returned (.tuple #[.string ⟨#[]⟩, .int .i64 1]) ∧ Below w.heap.size w w' := by
  have hB2 := fun o => hB.below (balloc o) (Nat.le_refl _)
  go_enter Tryd.func9, Tryd.ntmps9
  go_wp2_with (go_at_call 11; (with_reducible refine (check_no _ _ _ _ _ _ _ _ (hB2 _) hc).mono ?_); rintro e w1 ⟨rfl, hb1⟩)
  go_ret2
  exact ⟨rfl, (balloc _).trans (hb1.mono (by simp))⟩

theorem row_len5 {s : Int} (hs : U s) (h60 : ∀ n, inS s n = true → n ≤ 59) : ∀ k : Nat, ∀ p ∈ rowsU s k, (rowT p).length ≤ 5
  | 0, p, hp => by cases hp
  | k + 1, p, hp => by
    have e : rowsU s (k + 1) = rowsU s k ++ (if isSt s (k : Int) = true then [((k : Int), endOf s k)] else []) := rfl
    rw [e, List.mem_append] at hp
    rcases hp with hp | hp
    · exact row_len5 hs h60 k p hp
    · by_cases g : isSt s (k : Int) = true
      · rw [if_pos g, List.mem_singleton] at hp
        subst hp
        unfold isSt at g
        rw [Bool.and_eq_true] at g
        obtain ⟨e1, e2, e3, _⟩ := end_spec hs h60 g.1
        have := inS_bd g.1
        have l1 := dec_len (k : Int).toNat (by omega)
        have l2 := dec_len (endOf s k).toNat (by unfold endOf; omega)
        unfold rowT
        dsimp only
        split
        · omega
        · simp only [List.length_append, List.length_cons, List.length_nil]; omega
      · rw [if_neg g] at hp; cases hp
theorem word_len {s lo hi : Int} (star : Bool) (hs : U s) (hsub : ∀ n, inS s n = true → lo ≤ n ∧ n ≤ hi) (hl : 0 ≤ lo ∧ lo ≤ 1 ∧ lo < hi ∧ hi ≤ 59) : (wordT s star).length ≤ 1000 := by
  cases star
  · rw [word_hi hs hl.1 hl.2.2.1 hl.2.2.2 hsub]
    have h5 : ∀ x ∈ rowsT s (hi + 1).toNat, x.length ≤ 5 := by
      intro x hx
      unfold rowsT at hx
      rw [List.mem_map] at hx
      obtain ⟨p, hp, rfl⟩ := hx
      exact row_len5 hs (fun n h => by have := hsub n h; omega) _ p hp
    have h1 := join_len [44] 5 (rowsT s (hi + 1).toNat) h5
    have h2 : (rowsT s (hi + 1).toNat).length ≤ 64 := by unfold rowsT; rw [List.length_map]; have := rows_len s (hi + 1).toNat; omega
    have h3 : (rowsT s (hi + 1).toNat).length * (([44] : List UInt8).length + 5) ≤ 64 * 6 := Nat.mul_le_mul h2 (by decide)
    omega
  · rw [word_st]; decide
theorem words_len {mi ho da mn we : Int} {ad aw : Bool} (b0 : U mi) (b1 : U ho) (b2 : U da) (b3 : U mn) (b4 : U we) (hc : chkB mi ho da mn we ad aw = true) : ∀ j, (wds mi ho da mn we ad aw j).length ≤ 1000 := by
  have key : ∀ k, k < 5 → (wds mi ho da mn we ad aw k).length ≤ 1000 := fun k hk => by
    obtain ⟨h1, h2⟩ := set_k (good_of b0 b1 b2 b3 b4 hc) b0 b1 b2 b3 b4 hk
    rw [wds_k hk]
    exact word_len _ h1 h2 (lim_k hk)
  intro j
  match j with
  | 0 => exact key 0 (by decide)
  | 1 => exact key 1 (by decide)
  | 2 => exact key 2 (by decide)
  | 3 => exact key 3 (by decide)
  | j + 4 => exact key 4 (by decide)

set_option maxHeartbeats 8000000 in
theorem says_no (mi ho da mn we : Int) (ad aw : Bool) (y mo d h i sc kd : Int) (w : World) (hB : BdsAt w) (hT : TabIs64 w) (b0 : U mi) (b1 : U ho) (b2 : U da) (b3 : U mn) (b4 : U we) (hc : chkB mi ho da mn we ad aw = false) :
    Calls Tryd.prog 3 #[cronV mi ho da mn we ad aw, civ y mo d h i sc kd] w fun e w' => e = .returned (.bool true) ∧ Below w.heap.size w w' := by
  have hE : chkE mi ho da mn we ad aw = 1 := by unfold chkE; rw [hc]; rfl
  have c1 := fun w => rcron_any mi ho da mn we ad aw w b0 b1 b2 b3 b4
  rw [hE] at c1
  have c2 := fun w hB => print_no mi ho da mn we ad aw w hB hc
  have c3 := fun w hB => match_no mi ho da mn we ad aw y mo d h i sc kd w hB hc
  have c4 := fun w hB => check_no mi ho da mn we ad aw w hB hc
  clear hE hc b0 b1 b2 b3 b4
  obtain ⟨hC0, hD0, hz0, hw0⟩ := box_two w (#[Value.int .u64 mi, .int .u64 ho, .int .u64 da, .int .u64 mn, .int .u64 we, .bool ad, .bool aw]) (#[Value.int .i64 y, .int .i64 mo, .int .i64 d, .int .i64 h, .int .i64 i, .int .i64 sc, .int .i64 kd]) 24 26
  obtain ⟨w0, hw⟩ : ∃ w0, w0 = (w.alloc (.cells (#[Value.int .u64 mi, .int .u64 ho, .int .u64 da, .int .u64 mn, .int .u64 we, .bool ad, .bool aw]) 24)).alloc (.cells (#[Value.int .i64 y, .int .i64 mo, .int .i64 d, .int .i64 h, .int .i64 i, .int .i64 sc, .int .i64 kd]) 26) := ⟨_, rfl⟩
  rw [← hw] at hC0 hD0 hz0 hw0
  go_enter Tryd.func3, Tryd.ntmps3
  go_wp2_with (first
    | (go_at_call 6; rw [← hw]; (with_reducible refine (c1 _).mono ?_); rintro e w1 ⟨rfl, hb1⟩; have hC1 : ∀ o, w1.cell? ⟨w.heap.size, o, none⟩ = (#[Value.int .u64 mi, .int .u64 ho, .int .u64 da, .int .u64 mn, .int .u64 we, .bool ad, .bool aw])[o]? := cells_on hC0 hb1 (by omega); have hD1 : ∀ o, w1.cell? ⟨w.heap.size + 1, o, none⟩ = (#[Value.int .i64 y, .int .i64 mo, .int .i64 d, .int .i64 h, .int .i64 i, .int .i64 sc, .int .i64 kd])[o]? := cells_on hD0 hb1 hz0; have hz1 : w.heap.size + 1 < w1.heap.size := Nat.lt_of_lt_of_le hz0 hb1.size; have hw1 : Below w.heap.size w w1 := hw0.trans (hb1.mono hw0.size); have hB1 := hB.below hw1 (Nat.le_refl _); have hT1 := hT.below hw1 (Nat.le_refl _))
    | (go_at_call 9; (with_reducible refine (c2 _ hB1).mono ?_); rintro e w2 ⟨rfl, hb2⟩; have hC2 : ∀ o, w2.cell? ⟨w.heap.size, o, none⟩ = (#[Value.int .u64 mi, .int .u64 ho, .int .u64 da, .int .u64 mn, .int .u64 we, .bool ad, .bool aw])[o]? := cells_on hC1 hb2 (by omega); have hD2 : ∀ o, w2.cell? ⟨w.heap.size + 1, o, none⟩ = (#[Value.int .i64 y, .int .i64 mo, .int .i64 d, .int .i64 h, .int .i64 i, .int .i64 sc, .int .i64 kd])[o]? := cells_on hD1 hb2 hz1; have hz2 : w.heap.size + 1 < w2.heap.size := Nat.lt_of_lt_of_le hz1 hb2.size; have hw2 : Below w.heap.size w w2 := hw1.trans (hb2.mono hw1.size); have hB2 := hB.below hw2 (Nat.le_refl _); have hT2 := hT.below hw2 (Nat.le_refl _))
    | (go_at_call 10; (with_reducible refine (c3 _ hB2).mono ?_); rintro e w3 ⟨rfl, hb3⟩; have hC3 : ∀ o, w3.cell? ⟨w.heap.size, o, none⟩ = (#[Value.int .u64 mi, .int .u64 ho, .int .u64 da, .int .u64 mn, .int .u64 we, .bool ad, .bool aw])[o]? := cells_on hC2 hb3 (by omega); have hD3 : ∀ o, w3.cell? ⟨w.heap.size + 1, o, none⟩ = (#[Value.int .i64 y, .int .i64 mo, .int .i64 d, .int .i64 h, .int .i64 i, .int .i64 sc, .int .i64 kd])[o]? := cells_on hD2 hb3 hz2; have hz3 : w.heap.size + 1 < w3.heap.size := Nat.lt_of_lt_of_le hz2 hb3.size; have hw3 : Below w.heap.size w w3 := hw2.trans (hb3.mono hw2.size); have hB3 := hB.below hw3 (Nat.le_refl _); have hT3 := hT.below hw3 (Nat.le_refl _))
    | (go_at_call 11; (with_reducible refine (c4 _ hB3).mono ?_); rintro e w4 ⟨rfl, hb4⟩))
  go_ret
  exact ⟨rfl, hw3.trans (hb4.mono hw3.size)⟩

set_option maxHeartbeats 8000000 in
theorem says_yes (mi ho da mn we : Int) (ad aw : Bool) (y mo d h i sc kd : Int) (w : World) (hB : BdsAt w) (hT : TabIs64 w) (b0 : U mi) (b1 : U ho) (b2 : U da) (b3 : U mn) (b4 : U we) (bm : I mo) (bd : I d) (bh : I h) (bi : I i) (bk : I kd) (hc : chkB mi ho da mn we ad aw = true) :
    Calls Tryd.prog 3 #[cronV mi ho da mn we ad aw, civ y mo d h i sc kd] w fun e w' => e = .returned (.bool true) ∧ Below w.heap.size w w' := by
  have hE : chkE mi ho da mn we ad aw = 0 := by unfold chkE; rw [hc]; rfl
  have c1 := fun w => rcron_any mi ho da mn we ad aw w b0 b1 b2 b3 b4
  rw [hE] at c1
  have hl := words_len b0 b1 b2 b3 b4 hc
  have c5 := fun w => rtext mi ho da mn we ad aw w b0 b1 b2 b3 b4 hc hl
  have c6 := fun w => rmatch_any mi ho da mn we ad aw y mo d h i sc kd w b0 b1 b2 b3 b4
  have c2 := fun w hB hT => print_yes mi ho da mn we ad aw w hB hT b0 b1 b2 b3 b4 hc hl
  have c3 := fun w hB => match_yes mi ho da mn we ad aw y mo d h i sc kd w hB hc b0 b1 b2 b3 b4 bm bd bh bi bk
  have c4 := fun w hB => check_yes mi ho da mn we ad aw w hB hc
  generalize cronT (wds mi ho da mn we ad aw) = T at c5 c2
  generalize mtB mi ho da mn we ad aw mo d h i kd = mt at c6 c3
  clear hE hc b0 b1 b2 b3 b4 hl
  obtain ⟨hC0, hD0, hz0, hw0⟩ := box_two w (#[Value.int .u64 mi, .int .u64 ho, .int .u64 da, .int .u64 mn, .int .u64 we, .bool ad, .bool aw]) (#[Value.int .i64 y, .int .i64 mo, .int .i64 d, .int .i64 h, .int .i64 i, .int .i64 sc, .int .i64 kd]) 24 26
  obtain ⟨w0, hw⟩ : ∃ w0, w0 = (w.alloc (.cells (#[Value.int .u64 mi, .int .u64 ho, .int .u64 da, .int .u64 mn, .int .u64 we, .bool ad, .bool aw]) 24)).alloc (.cells (#[Value.int .i64 y, .int .i64 mo, .int .i64 d, .int .i64 h, .int .i64 i, .int .i64 sc, .int .i64 kd]) 26) := ⟨_, rfl⟩
  rw [← hw] at hC0 hD0 hz0 hw0
  go_enter Tryd.func3, Tryd.ntmps3
  go_wp2_with (first
    | (go_at_call 6; rw [← hw]; (with_reducible refine (c1 _).mono ?_); rintro e w1 ⟨rfl, hb1⟩; have hC1 : ∀ o, w1.cell? ⟨w.heap.size, o, none⟩ = (#[Value.int .u64 mi, .int .u64 ho, .int .u64 da, .int .u64 mn, .int .u64 we, .bool ad, .bool aw])[o]? := cells_on hC0 hb1 (by omega); have hD1 : ∀ o, w1.cell? ⟨w.heap.size + 1, o, none⟩ = (#[Value.int .i64 y, .int .i64 mo, .int .i64 d, .int .i64 h, .int .i64 i, .int .i64 sc, .int .i64 kd])[o]? := cells_on hD0 hb1 hz0; have hz1 : w.heap.size + 1 < w1.heap.size := Nat.lt_of_lt_of_le hz0 hb1.size; have hw1 : Below w.heap.size w w1 := hw0.trans (hb1.mono hw0.size); have hB1 := hB.below hw1 (Nat.le_refl _); have hT1 := hT.below hw1 (Nat.le_refl _)))
  go_region_held (fun w' => (∀ o, w'.cell? ⟨w.heap.size, o, none⟩ = (#[Value.int .u64 mi, .int .u64 ho, .int .u64 da, .int .u64 mn, .int .u64 we, .bool ad, .bool aw])[o]?) ∧ (∀ o, w'.cell? ⟨w.heap.size + 1, o, none⟩ = (#[Value.int .i64 y, .int .i64 mo, .int .i64 d, .int .i64 h, .int .i64 i, .int .i64 sc, .int .i64 kd])[o]?)) (first | exact ⟨hC6, hD6⟩ | exact ⟨hC5, hD5⟩ | exact ⟨hC1, hD1⟩) (first
    | (go_at_call 7; (with_reducible refine (c5 _).mono ?_); rintro e w5 ⟨rfl, hb5'⟩; have hb5 := bel_drew hb5'; have hC5 : ∀ o, w5.cell? ⟨w.heap.size, o, none⟩ = (#[Value.int .u64 mi, .int .u64 ho, .int .u64 da, .int .u64 mn, .int .u64 we, .bool ad, .bool aw])[o]? := cells_on hC1 hb5 (by omega); have hD5 : ∀ o, w5.cell? ⟨w.heap.size + 1, o, none⟩ = (#[Value.int .i64 y, .int .i64 mo, .int .i64 d, .int .i64 h, .int .i64 i, .int .i64 sc, .int .i64 kd])[o]? := cells_on hD1 hb5 hz1; have hz5 : w.heap.size + 1 < w5.heap.size := Nat.lt_of_lt_of_le hz1 hb5.size; have hw5 : Below w.heap.size w w5 := hw1.trans (hb5.mono hw1.size); have hB5 := hB.below hw5 (Nat.le_refl _); have hT5 := hT.below hw5 (Nat.le_refl _))
    | (go_at_call 8; (with_reducible refine (c6 _).mono ?_); rintro e w6 ⟨rfl, hb6⟩; have hC6 : ∀ o, w6.cell? ⟨w.heap.size, o, none⟩ = (#[Value.int .u64 mi, .int .u64 ho, .int .u64 da, .int .u64 mn, .int .u64 we, .bool ad, .bool aw])[o]? := cells_on hC5 hb6 (by omega); have hD6 : ∀ o, w6.cell? ⟨w.heap.size + 1, o, none⟩ = (#[Value.int .i64 y, .int .i64 mo, .int .i64 d, .int .i64 h, .int .i64 i, .int .i64 sc, .int .i64 kd])[o]? := cells_on hD5 hb6 hz5; have hz6 : w.heap.size + 1 < w6.heap.size := Nat.lt_of_lt_of_le hz5 hb6.size; have hw6 : Below w.heap.size w w6 := hw5.trans (hb6.mono hw5.size); have hB6 := hB.below hw6 (Nat.le_refl _); have hT6 := hT.below hw6 (Nat.le_refl _)))
  go_wp2_with (first
    | (go_at_call 9; (with_reducible refine (c2 _ hB6 hT6).mono ?_); rintro e w2 ⟨rfl, hb2⟩; have hC2 : ∀ o, w2.cell? ⟨w.heap.size, o, none⟩ = (#[Value.int .u64 mi, .int .u64 ho, .int .u64 da, .int .u64 mn, .int .u64 we, .bool ad, .bool aw])[o]? := cells_on hC6 hb2 (by omega); have hD2 : ∀ o, w2.cell? ⟨w.heap.size + 1, o, none⟩ = (#[Value.int .i64 y, .int .i64 mo, .int .i64 d, .int .i64 h, .int .i64 i, .int .i64 sc, .int .i64 kd])[o]? := cells_on hD6 hb2 hz6; have hz2 : w.heap.size + 1 < w2.heap.size := Nat.lt_of_lt_of_le hz6 hb2.size; have hw2 : Below w.heap.size w w2 := hw6.trans (hb2.mono hw6.size); have hB2 := hB.below hw2 (Nat.le_refl _); have hT2 := hT.below hw2 (Nat.le_refl _))
    | (go_at_call 10; (with_reducible refine (c3 _ hB2).mono ?_); rintro e w3 ⟨rfl, hb3⟩; have hC3 : ∀ o, w3.cell? ⟨w.heap.size, o, none⟩ = (#[Value.int .u64 mi, .int .u64 ho, .int .u64 da, .int .u64 mn, .int .u64 we, .bool ad, .bool aw])[o]? := cells_on hC2 hb3 (by omega); have hD3 : ∀ o, w3.cell? ⟨w.heap.size + 1, o, none⟩ = (#[Value.int .i64 y, .int .i64 mo, .int .i64 d, .int .i64 h, .int .i64 i, .int .i64 sc, .int .i64 kd])[o]? := cells_on hD2 hb3 hz2; have hz3 : w.heap.size + 1 < w3.heap.size := Nat.lt_of_lt_of_le hz2 hb3.size; have hw3 : Below w.heap.size w w3 := hw2.trans (hb3.mono hw2.size); have hB3 := hB.below hw3 (Nat.le_refl _); have hT3 := hT.below hw3 (Nat.le_refl _))
    | (go_at_call 11; (with_reducible refine (c4 _ hB3).mono ?_); rintro e w4 ⟨rfl, hb4⟩))
  go_ret
  exact ⟨rfl, hw3.trans (hb4.mono hw3.size)⟩
end RCrn
end Go.Proofs.YtmogbileofpcfaaDoor
