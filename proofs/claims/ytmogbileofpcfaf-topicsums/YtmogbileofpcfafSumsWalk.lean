/- The law of a topic's sums, walked. -/
import Derived.Test.YtmogbileofpcfafTopLaw
import Derived.Test.YtmogbileofpcfafFrameSl
namespace Go.Proofs.Ytmogbileofpcfaf
namespace Top
open Go.RowKit Frm
set_option maxRecDepth 8000

/-- k acts are done -/
def SumR (T G M K n len : Nat) (w : World) (i : Value) (wr : World) : Prop :=
  ∃ (k : Nat) (E O : Nat → Int), k ≤ len ∧ i = .int .i64 k ∧ TopAt wr T G n E O ∧ Row1 wr M n E ∧ Row1 wr K n O ∧ (∀ j, j < n → 0 ≤ O j ∧ O j ≤ E j ∧ E j ≤ 100000 * k) ∧ Below w.heap.size w wr
def SumS (n : Nat) (w : World) (i : Value) (wr : World) : Prop := ∃ k q : Nat, k ≤ n ∧ i = .int .i64 k ∧ wr = w.drewN q

set_option maxHeartbeats 8000000 in
theorem sums_no (w : World) (a0 : Int) (a1 : Option Addr) (len cap : Nat) (h : ¬ (1 ≤ a0 ∧ a0 ≤ 20)) :
    Calls Try.prog 3 #[.int .i64 a0, .slice a1 len cap] w fun e w' => e = .returned (.bool true) ∧ Below w.heap.size w w' := by
  have c1 : ∀ w, Calls Try.prog 4 #[.int .i64 2] w _ := fun w => new_yes 2 w (by omega) (by omega)
  have c2 := fun w => new_no a0 w h
  clear h
  go_enter Try.func3, Try.ntmps3
  go_wp2_with (first
    | (go_at_call 4; (with_reducible refine (c1 _).mono ?_); rintro e w1 ⟨T1, G1, rfl, hT1, hG1, hA1, hb1⟩)
    | (go_at_call 5; refine (topMake T1 G1 2 1 5 _ _ w1 hA1 (by omega) (by omega) (by simp)).mono ?_; rintro e w2 ⟨rfl, hA2, hO2⟩)
    | (go_at_call 6; refine (topTake T1 G1 2 1 3 _ _ w2 hA2 (by omega) (by simp) (by simp [upd])).mono ?_; rintro e w3 ⟨rfl, hA3, hO3⟩; have hb3 : Below w.heap.size w w3 := (hb1.trans (hO2.below hG1)).trans (hO3.below hG1))
    | (go_at_call 8; refine (lags_any T1 G1 2 (two (0 + 5)) (two 3) w3 hA3 (by omega) two_bd).mono ?_; rintro e w4 ⟨L4, rfl, hL4, hR4, hb4⟩; have hw4 : Below w.heap.size w w4 := hb3.trans (hb4.mono hb3.size); have hx4 := fun q : Nat => below_drewN (hw4.alloc hw4.size (.cells #[.int .i64 0, .int .i64 2] 3)) q)
    | (go_at_call 7; refine (equal_yes L4 w4.heap.size 2 2 2 (dif (two (0 + 5)) (two 3)) (fun i => if i = 0 then 0 else 2) _ (hR4.alloc _) (pair_row w4 3 0 2) (by omega) two_lags).mono ?_; rintro e w5 ⟨rfl, q5, h9⟩; have hw5 : Below w.heap.size w w5 := (by rw [h9]; exact hx4 q5); clear h9)
    | (go_at_call 4; (with_reducible refine (c2 _).mono ?_); rintro e w6 ⟨rfl, h9⟩; have h8 := h9.symm; clear h9; subst h8))
  go_ret
  exact ⟨rfl, hw5⟩

set_option maxHeartbeats 8000000 in
theorem sums_long (w : World) (n : Nat) (a1 : Option Addr) (len cap : Nat) (h1 : 1 ≤ n) (h2 : n ≤ 20) (h3 : 100 < len) :
    Calls Try.prog 3 #[.int .i64 (n : Int), .slice a1 len cap] w fun e w' => e = .returned (.bool true) ∧ Below w.heap.size w w' := by
  have c1 : ∀ w, Calls Try.prog 4 #[.int .i64 2] w _ := fun w => new_yes 2 w (by omega) (by omega)
  have c2 := fun w => new_yes n w h1 h2
  have h3' : (100 : Int) < len := by omega
  go_enter Try.func3, Try.ntmps3
  go_wp2_with (first
    | (go_at_call 4; (with_reducible refine (c1 _).mono ?_); rintro e w1 ⟨T1, G1, rfl, hT1, hG1, hA1, hb1⟩)
    | (go_at_call 5; refine (topMake T1 G1 2 1 5 _ _ w1 hA1 (by omega) (by omega) (by simp)).mono ?_; rintro e w2 ⟨rfl, hA2, hO2⟩)
    | (go_at_call 6; refine (topTake T1 G1 2 1 3 _ _ w2 hA2 (by omega) (by simp) (by simp [upd])).mono ?_; rintro e w3 ⟨rfl, hA3, hO3⟩; have hb3 : Below w.heap.size w w3 := (hb1.trans (hO2.below hG1)).trans (hO3.below hG1))
    | (go_at_call 8; refine (lags_any T1 G1 2 (two (0 + 5)) (two 3) w3 hA3 (by omega) two_bd).mono ?_; rintro e w4 ⟨L4, rfl, hL4, hR4, hb4⟩; have hw4 : Below w.heap.size w w4 := hb3.trans (hb4.mono hb3.size); have hx4 := fun q : Nat => below_drewN (hw4.alloc hw4.size (.cells #[.int .i64 0, .int .i64 2] 3)) q)
    | (go_at_call 7; refine (equal_yes L4 w4.heap.size 2 2 2 (dif (two (0 + 5)) (two 3)) (fun i => if i = 0 then 0 else 2) _ (hR4.alloc _) (pair_row w4 3 0 2) (by omega) two_lags).mono ?_; rintro e w5 ⟨rfl, q5, h9⟩; have hw5 : Below w.heap.size w w5 := (by rw [h9]; exact hx4 q5); clear h9)
    | (go_at_call 4; (with_reducible refine (c2 _).mono ?_); rintro e w6 ⟨T, G, rfl, hT, hG, hA, hb6⟩))
  go_ret
  exact ⟨rfl, hw5.trans (hb6.mono hw5.size)⟩

set_option maxHeartbeats 8000000 in
theorem sums_yes (w : World) (n : Nat) (a1 : Option Addr) (len cap : Nat) (X : Nat → Nat → Int) (h1 : 1 ≤ n) (h2 : n ≤ 20) (h3 : len ≤ 100) (hX : Frm.RowsIn w a1 len 1 X) :
    Calls Try.prog 3 #[.int .i64 (n : Int), .slice a1 len cap] w fun e w' => e = .returned (.bool true) ∧ Below w.heap.size w w' := by
  obtain ⟨i0, hi, hz0, hz1, hz2⟩ := info_parts info_int
  have c1 : ∀ w, Calls Try.prog 4 #[.int .i64 2] w _ := fun w => new_yes 2 w (by omega) (by omega)
  have c2 := fun w => new_yes n w h1 h2
  have h3' : ¬ (100 : Int) < len := by omega
  go_enter Try.func3, Try.ntmps3
  go_wp2_with (first
    | (go_at_call 4; (with_reducible refine (c1 _).mono ?_); rintro e w1 ⟨T1, G1, rfl, hT1, hG1, hA1, hb1⟩)
    | (go_at_call 5; refine (topMake T1 G1 2 1 5 _ _ w1 hA1 (by omega) (by omega) (by simp)).mono ?_; rintro e w2 ⟨rfl, hA2, hO2⟩)
    | (go_at_call 6; refine (topTake T1 G1 2 1 3 _ _ w2 hA2 (by omega) (by simp) (by simp [upd])).mono ?_; rintro e w3 ⟨rfl, hA3, hO3⟩; have hb3 : Below w.heap.size w w3 := (hb1.trans (hO2.below hG1)).trans (hO3.below hG1))
    | (go_at_call 8; refine (lags_any T1 G1 2 (two (0 + 5)) (two 3) w3 hA3 (by omega) two_bd).mono ?_; rintro e w4 ⟨L4, rfl, hL4, hR4, hb4⟩; have hw4 : Below w.heap.size w w4 := hb3.trans (hb4.mono hb3.size); have hx4 := fun q : Nat => below_drewN (hw4.alloc hw4.size (.cells #[.int .i64 0, .int .i64 2] 3)) q)
    | (go_at_call 7; refine (equal_yes L4 w4.heap.size 2 2 2 (dif (two (0 + 5)) (two 3)) (fun i => if i = 0 then 0 else 2) _ (hR4.alloc _) (pair_row w4 3 0 2) (by omega) two_lags).mono ?_; rintro e w5 ⟨rfl, q5, h9⟩; have hw5 : Below w.heap.size w w5 := (by rw [h9]; exact hx4 q5); clear h9)
    | (go_at_call 4; (with_reducible refine (c2 _).mono ?_); rintro e w6 ⟨T, G, rfl, hT, hG, hA, hb6⟩; have hw6 := hw5.trans (hb6.mono hw5.size); clear hA1 hA2 hA3 hO2 hO3 hb3 hR4 hb4 hx4 hw4 hb1 hL4 hT1 hG1))

  have hmk := fun W => run_made W n h2
  have hr8 := two_rows w6 n
  have hsz := hw6.size
  have hG6 : w.heap.size ≤ G := by have := hw5.size; omega
  have hTl : T < w6.heap.size := hA.2.1
  have hGl : G < w6.heap.size := hA.2.2.2.lt
  go_region
  · clear hmk c1 c2
    go_wp2
    go_loopw [61] (fun i wr => SumR T G (w6.heap.size) (w6.heap.size + 1) n len w i wr) (fun i _ => len - (intOf i).toNat)
    case atStart => exact ⟨0, fun _ => 0, fun _ => 0, by omega, rfl, hA.below hr8.2.2 hTl hGl, hr8.1, hr8.2.1, fun j hj => by simp, hw6.trans (hr8.2.2.mono hsz)⟩
    case round =>
      clear hA hr8
      obtain ⟨k, E, O, hk, rfl, hA, hM, hK, hbd, hbw⟩ := hrel
      by_cases hlt : k < len
      · have hlt' : (k : Int) < len := by omega
        obtain ⟨b, off, rfl, hbl, hcell⟩ := (hX.below hbw (Nat.le_refl _)) k hlt
        have cX : wr.cell? ⟨b, off + k, none⟩ = some (.int .i64 (X k 0)) := by have := (hcell 0 (by omega)).1; simpa using this
        have bX := (hcell 0 (by omega)).2
        clear hcell
        generalize X k 0 = x at cX bX
        obtain ⟨m, hm, hmod⟩ : ∃ m : Nat, m < n ∧ (k : Int) % (n : Int) = (m : Int) := ⟨k % n, Nat.mod_lt _ (by omega), by omega⟩
        have hn0 : ¬ (n : Int) = 0 := by omega
        have hm' : (m : Int) < n := by omega
        have bm := hbd m hm
        by_cases h3 : (k : Int) % 3 = 2
        · by_cases hx : O m ≤ x ∧ x ≤ E m
          · have c := topTake T G n m x E O wr hA hm hx.1 hx.2
            go_wp2_with (go_at_call 6; (with_reducible refine c.mono ?_); rintro e w9 ⟨rfl, hA9, hO9⟩; have hM9 := hM.only hO9 (by omega); have hK9 := hK.only hO9 (by omega); have cM9 := hM9.2.1 m hm; have cK9 := hK9.2.1 m hm; have fK9 := hK9.2.2 m)
            have o9 := Only.set (G := w6.heap.size + 1) w9 ⟨w6.heap.size + 1, m, none⟩ (.int .i64 x) rfl
            go_roundw
            case rel => exact ⟨k + 1, E, upd O m x, by omega, rfl, hA9.only o9 (by omega) (by omega), hM9.only o9 (by omega), hK9.set hm _, fun j hj => by have := hbd j hj; unfold upd; split <;> (try subst j) <;> omega, (hbw.trans (hO9.below hG6)).trans (o9.below (by omega))⟩
            case measure => simp [intOf]; omega
          · have c := topTake_no T G n m x E O wr hA hm hx
            go_wp2_with (go_at_call 6; (with_reducible refine c.mono ?_); rintro e w9 ⟨rfl, h9⟩; have h8 := h9.symm; clear h9; subst h8)
            go_roundw
            case rel => exact ⟨k + 1, E, O, by omega, rfl, hA, hM, hK, fun j hj => by have := hbd j hj; omega, hbw⟩
            case measure => simp [intOf]; omega
        · by_cases hx : 1 ≤ x ∧ x ≤ 100000
          · have c := topMake T G n m x E O wr hA hm hx (by omega)
            go_wp2_with (go_at_call 5; (with_reducible refine c.mono ?_); rintro e w9 ⟨rfl, hA9, hO9⟩; have hM9 := hM.only hO9 (by omega); have hK9 := hK.only hO9 (by omega); have cM9 := hM9.2.1 m hm; have fM9 := hM9.2.2 m)
            have o9 := Only.set (G := w6.heap.size) w9 ⟨w6.heap.size, m, none⟩ (.int .i64 (E m + x)) rfl
            go_roundw
            case rel => exact ⟨k + 1, upd E m (E m + x), O, by omega, rfl, hA9.only o9 (by omega) (by omega), hM9.set hm _, hK9.only o9 (by omega), fun j hj => by have := hbd j hj; unfold upd; split <;> (try subst j) <;> omega, (hbw.trans (hO9.below hG6)).trans (o9.below (by omega))⟩
            case measure => simp [intOf]; omega
          · have c := make_arg T G n m x wr hA.2.2.1 (by omega) (by omega) hx
            go_wp2_with (go_at_call 5; (with_reducible refine c.mono ?_); rintro e w9 ⟨rfl, h9⟩; have h8 := h9.symm; clear h9; subst h8)
            go_roundw
            case rel => exact ⟨k + 1, E, O, by omega, rfl, hA, hM, hK, fun j hj => by have := hbd j hj; omega, hbw⟩
            case measure => simp [intOf]; omega
      · have c := lags_any T G n E O wr hA h2 (fun i hi => by have := hbd i hi; omega)
        have hGs := hA.2.2.2.lt
        have hMs := hM.lt
        have hKs := hK.lt
        go_wp2_with (go_at_call 8; (with_reducible refine c.mono ?_); rintro e w9 ⟨L, rfl, hL, hRL, hb9⟩; have hM9 := hM.below hb9 hMs; have hK9 := hK.below hb9 hKs)
        have hw9 : Below w.heap.size w w9 := hbw.trans (hb9.mono hbw.size)
        clear hA hM hK hbw hb9 c
        go_loopw [111] (fun i wr => SumS n w9 i wr) (fun i _ => n - (intOf i).toNat)
        case atStart => exact ⟨0, 0, by omega, rfl, rfl⟩
        case round =>
          obtain ⟨j, q, hj, rfl, hq⟩ := hrel
          have HQ : Hid (wr = w9.drewN q) := hq
          by_cases hlt2 : j < n
          · have hlt3 : (j : Int) < n := by omega
            have bj := hbd j hlt2
            have hwr : IntKind.i64.wrap (E j - O j) = E j - O j := by rw [IntKind.wrap_i64]; omega
            have d1 : wr.cell? ⟨L, j, none⟩ = some (.int .i64 (E j - O j)) := by rw [hq]; exact hRL.2.1 j hlt2
            have d2 : wr.cell? ⟨w6.heap.size, j, none⟩ = some (.int .i64 (E j)) := by rw [hq]; exact hM9.2.1 j hlt2
            have d3 : wr.cell? ⟨w6.heap.size + 1, j, none⟩ = some (.int .i64 (O j)) := by rw [hq]; exact hK9.2.1 j hlt2
            clear hq
            go_wp2_with fail
            go_quiet (fail)
            go_wp2
            go_roundw
            case rel => exact ⟨j + 1, q + nq, by omega, rfl, by rw [HQ.out, World.drewN_drewN]⟩
            case measure => simp [intOf]; omega
          · obtain rfl : j = n := by omega
            go_wp2
            go_ret
            exact ⟨rfl, below_drewN hw9 q⟩
  · clear hmk c1 c2
    go_wp2
    go_loopw [61] (fun i wr => SumR T G (w6.heap.size + 1) (w6.heap.size) n len w i wr) (fun i _ => len - (intOf i).toNat)
    case atStart => exact ⟨0, fun _ => 0, fun _ => 0, by omega, rfl, hA.below hr8.2.2 hTl hGl, hr8.2.1, hr8.1, fun j hj => by simp, hw6.trans (hr8.2.2.mono hsz)⟩
    case round =>
      clear hA hr8
      obtain ⟨k, E, O, hk, rfl, hA, hM, hK, hbd, hbw⟩ := hrel
      by_cases hlt : k < len
      · have hlt' : (k : Int) < len := by omega
        obtain ⟨b, off, rfl, hbl, hcell⟩ := (hX.below hbw (Nat.le_refl _)) k hlt
        have cX : wr.cell? ⟨b, off + k, none⟩ = some (.int .i64 (X k 0)) := by have := (hcell 0 (by omega)).1; simpa using this
        have bX := (hcell 0 (by omega)).2
        clear hcell
        generalize X k 0 = x at cX bX
        obtain ⟨m, hm, hmod⟩ : ∃ m : Nat, m < n ∧ (k : Int) % (n : Int) = (m : Int) := ⟨k % n, Nat.mod_lt _ (by omega), by omega⟩
        have hn0 : ¬ (n : Int) = 0 := by omega
        have hm' : (m : Int) < n := by omega
        have bm := hbd m hm
        by_cases h3 : (k : Int) % 3 = 2
        · by_cases hx : O m ≤ x ∧ x ≤ E m
          · have c := topTake T G n m x E O wr hA hm hx.1 hx.2
            go_wp2_with (go_at_call 6; (with_reducible refine c.mono ?_); rintro e w9 ⟨rfl, hA9, hO9⟩; have hM9 := hM.only hO9 (by omega); have hK9 := hK.only hO9 (by omega); have cM9 := hM9.2.1 m hm; have cK9 := hK9.2.1 m hm; have fK9 := hK9.2.2 m)
            have o9 := Only.set (G := w6.heap.size) w9 ⟨w6.heap.size, m, none⟩ (.int .i64 x) rfl
            go_roundw
            case rel => exact ⟨k + 1, E, upd O m x, by omega, rfl, hA9.only o9 (by omega) (by omega), hM9.only o9 (by omega), hK9.set hm _, fun j hj => by have := hbd j hj; unfold upd; split <;> (try subst j) <;> omega, (hbw.trans (hO9.below hG6)).trans (o9.below (by omega))⟩
            case measure => simp [intOf]; omega
          · have c := topTake_no T G n m x E O wr hA hm hx
            go_wp2_with (go_at_call 6; (with_reducible refine c.mono ?_); rintro e w9 ⟨rfl, h9⟩; have h8 := h9.symm; clear h9; subst h8)
            go_roundw
            case rel => exact ⟨k + 1, E, O, by omega, rfl, hA, hM, hK, fun j hj => by have := hbd j hj; omega, hbw⟩
            case measure => simp [intOf]; omega
        · by_cases hx : 1 ≤ x ∧ x ≤ 100000
          · have c := topMake T G n m x E O wr hA hm hx (by omega)
            go_wp2_with (go_at_call 5; (with_reducible refine c.mono ?_); rintro e w9 ⟨rfl, hA9, hO9⟩; have hM9 := hM.only hO9 (by omega); have hK9 := hK.only hO9 (by omega); have cM9 := hM9.2.1 m hm; have fM9 := hM9.2.2 m)
            have o9 := Only.set (G := w6.heap.size + 1) w9 ⟨w6.heap.size + 1, m, none⟩ (.int .i64 (E m + x)) rfl
            go_roundw
            case rel => exact ⟨k + 1, upd E m (E m + x), O, by omega, rfl, hA9.only o9 (by omega) (by omega), hM9.set hm _, hK9.only o9 (by omega), fun j hj => by have := hbd j hj; unfold upd; split <;> (try subst j) <;> omega, (hbw.trans (hO9.below hG6)).trans (o9.below (by omega))⟩
            case measure => simp [intOf]; omega
          · have c := make_arg T G n m x wr hA.2.2.1 (by omega) (by omega) hx
            go_wp2_with (go_at_call 5; (with_reducible refine c.mono ?_); rintro e w9 ⟨rfl, h9⟩; have h8 := h9.symm; clear h9; subst h8)
            go_roundw
            case rel => exact ⟨k + 1, E, O, by omega, rfl, hA, hM, hK, fun j hj => by have := hbd j hj; omega, hbw⟩
            case measure => simp [intOf]; omega
      · have c := lags_any T G n E O wr hA h2 (fun i hi => by have := hbd i hi; omega)
        have hGs := hA.2.2.2.lt
        have hMs := hM.lt
        have hKs := hK.lt
        go_wp2_with (go_at_call 8; (with_reducible refine c.mono ?_); rintro e w9 ⟨L, rfl, hL, hRL, hb9⟩; have hM9 := hM.below hb9 hMs; have hK9 := hK.below hb9 hKs)
        have hw9 : Below w.heap.size w w9 := hbw.trans (hb9.mono hbw.size)
        clear hA hM hK hbw hb9 c
        go_loopw [111] (fun i wr => SumS n w9 i wr) (fun i _ => n - (intOf i).toNat)
        case atStart => exact ⟨0, 0, by omega, rfl, rfl⟩
        case round =>
          obtain ⟨j, q, hj, rfl, hq⟩ := hrel
          have HQ : Hid (wr = w9.drewN q) := hq
          by_cases hlt2 : j < n
          · have hlt3 : (j : Int) < n := by omega
            have bj := hbd j hlt2
            have hwr : IntKind.i64.wrap (E j - O j) = E j - O j := by rw [IntKind.wrap_i64]; omega
            have d1 : wr.cell? ⟨L, j, none⟩ = some (.int .i64 (E j - O j)) := by rw [hq]; exact hRL.2.1 j hlt2
            have d2 : wr.cell? ⟨w6.heap.size + 1, j, none⟩ = some (.int .i64 (E j)) := by rw [hq]; exact hM9.2.1 j hlt2
            have d3 : wr.cell? ⟨w6.heap.size, j, none⟩ = some (.int .i64 (O j)) := by rw [hq]; exact hK9.2.1 j hlt2
            clear hq
            go_wp2_with fail
            go_quiet (fail)
            go_wp2
            go_roundw
            case rel => exact ⟨j + 1, q + nq, by omega, rfl, by rw [HQ.out, World.drewN_drewN]⟩
            case measure => simp [intOf]; omega
          · obtain rfl : j = n := by omega
            go_wp2
            go_ret
            exact ⟨rfl, below_drewN hw9 q⟩
end Top
end Go.Proofs.Ytmogbileofpcfaf
