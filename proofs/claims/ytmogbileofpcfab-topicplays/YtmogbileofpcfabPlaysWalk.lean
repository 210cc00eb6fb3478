/- The law of a topic's acts, walked. -/
import Derived.Test.YtmogbileofpcfabBoardLags
import Derived.Test.YtmogbileofpcfabFrameSl
import Derived.Deep.RegionHeld
namespace Go.Proofs.Ytmogbileofpcfab
namespace Top
open Go.RowKit Frm
set_option maxRecDepth 8000

theorem cell_at {W : World} {cs : Array Value} {e : TypeId} {N j : Nat} {v : Value} (hN : N = W.heap.size) (hj : cs[j]? = some v) : (W.alloc (.cells cs e)).cell? ⟨N, j, none⟩ = some v := by
  subst hN; simpa using hj
theorem size_two (w : World) (o o' : Obj) : w.heap.size + 2 = ((w.drew.alloc o).alloc o').heap.size := by simp
theorem board_new (w : World) (n : Nat) : BoardAt (((w.drew.alloc (.cells (madeCells #[.int .i64 0] n) 3)).alloc (.cells (madeCells #[.int .i64 0] n) 3)).alloc (.cells #[.slice (some ⟨w.heap.size, 0, none⟩) n n, .slice (some ⟨w.heap.size + 1, 0, none⟩) n n] 31)) (w.heap.size + 2) w.heap.size (w.heap.size + 1) n (fun _ => 0) (fun _ => 0) := by
  obtain ⟨h1, h2, _⟩ := two_rows w n
  exact ⟨by omega, by omega, by omega, by simp, cell_at (size_two _ _ _) rfl, cell_at (size_two _ _ _) rfl, h1.alloc _, h2.alloc _⟩
theorem board_new2 (w : World) (n : Nat) : BoardAt (((w.drew.alloc (.cells (madeCells #[.int .i64 0] n) 3)).alloc (.cells (madeCells #[.int .i64 0] n) 3)).alloc (.cells #[.slice (some ⟨w.heap.size + 1, 0, none⟩) n n, .slice (some ⟨w.heap.size, 0, none⟩) n n] 31)) (w.heap.size + 2) (w.heap.size + 1) w.heap.size n (fun _ => 0) (fun _ => 0) := by
  obtain ⟨h1, h2, _⟩ := two_rows w n
  exact ⟨by omega, by omega, by omega, by simp, cell_at (size_two _ _ _) rfl, cell_at (size_two _ _ _) rfl, h2.alloc _, h1.alloc _⟩

theorem TopAt.drew {w : World} {T G n : Nat} {E O : Nat → Int} (h : TopAt w T G n E O) : TopAt w.drew T G n E O := h.kept rfl rfl
theorem BoardAt.drew {w : World} {B P Q n : Nat} {E O : Nat → Int} (h : BoardAt w B P Q n E O) : BoardAt w.drew B P Q n E O := h.kept rfl rfl rfl
theorem BoardAt.drewN {w : World} {B P Q n : Nat} {E O : Nat → Int} (h : BoardAt w B P Q n E O) (q : Nat) : BoardAt (w.drewN q) B P Q n E O := h.kept rfl rfl rfl
theorem only_cell {G : Nat} {w w' : World} (h : Only G w w') {c j : Nat} (hne : c ≠ G) : w'.cell? ⟨c, j, none⟩ = w.cell? ⟨c, j, none⟩ := World.cell?_of_block (w := w) (a := ⟨c, j, none⟩) (h.block c hne)
theorem board_below (w : World) (o o' o'' : Obj) : Below w.heap.size w (((w.drew.alloc o).alloc o').alloc o'') := ((((Below.refl _ _).drew).alloc (Nat.le_refl _) _).alloc (by simp) _).alloc (by simp; omega) _
/-- k acts are done -/
def PlayR (T G B P Q n len : Nat) (w : World) (i : Value) (wr : World) : Prop :=
  ∃ (k : Nat) (E O : Nat → Int), k ≤ len ∧ i = .int .i64 k ∧ TopAt wr T G n E O ∧ BoardAt wr B P Q n E O ∧ (∀ j, j < n → 0 ≤ O j ∧ O j ≤ E j ∧ E j ≤ 100000 * k) ∧ Below w.heap.size w wr

set_option maxHeartbeats 8000000 in
theorem plays_no (w : World) (a0 : Int) (a1 : Option Addr) (len cap : Nat) (h : ¬ (1 ≤ a0 ∧ a0 ≤ 20)) :
    Calls Try.prog 3 #[.int .i64 a0, .slice a1 len cap] w fun e w' => e = .returned (.bool true) ∧ Below w.heap.size w w' := by
  have c1 := fun w => new_no a0 w h
  have c2 := fun w => rin_no a0 1 20 w h
  clear h
  go_enter Try.func3, Try.ntmps3
  go_wp2_with (first | (go_at_call 4; (with_reducible refine (c1 _).mono ?_); rintro e w6 ⟨rfl, rfl⟩) | (go_at_call 5; (with_reducible refine (c2 _).mono ?_); rintro e w6 ⟨rfl, rfl⟩))
  go_ret
  exact ⟨rfl, Below.refl _ _⟩

set_option maxHeartbeats 8000000 in
theorem plays_long (w : World) (n : Nat) (a1 : Option Addr) (len cap : Nat) (h1 : 1 ≤ n) (h2 : n ≤ 20) (h3 : 100 < len) :
    Calls Try.prog 3 #[.int .i64 (n : Int), .slice a1 len cap] w fun e w' => e = .returned (.bool true) ∧ Below w.heap.size w w' := by
  have c1 := fun w => new_yes n w h1 h2
  have c2 := fun w => rin_yes n 1 20 w (by omega) (by omega)
  have h3' : (100 : Int) < len := by omega
  go_enter Try.func3, Try.ntmps3
  go_wp2_with (first | (go_at_call 4; (with_reducible refine (c1 _).mono ?_); rintro e w6 ⟨T, G, rfl, hT, hG, hA, hb6⟩) | (go_at_call 5; (with_reducible refine (c2 _).mono ?_); rintro e w7 ⟨rfl, rfl⟩))
  go_ret
  exact ⟨rfl, hb6⟩

set_option maxHeartbeats 8000000 in
theorem plays_yes (w : World) (n : Nat) (a1 : Option Addr) (len cap : Nat) (X : Nat → Nat → Int) (h1 : 1 ≤ n) (h2 : n ≤ 20) (h3 : len ≤ 100) (hX : Frm.RowsIn w a1 len 3 X) :
    Calls Try.prog 3 #[.int .i64 (n : Int), .slice a1 len cap] w fun e w' => e = .returned (.bool true) ∧ Below w.heap.size w w' := by
  have c1 := fun w => new_yes n w h1 h2
  have c2 := fun w => rin_yes n 1 20 w (by omega) (by omega)
  have h3' : ¬ (100 : Int) < len := by omega
  go_enter Try.func3, Try.ntmps3
  go_wp2_with (first | (go_at_call 4; (with_reducible refine (c1 _).mono ?_); rintro e w6 ⟨T, G, rfl, hT, hG, hA, hw6⟩) | (go_at_call 5; (with_reducible refine (c2 _).mono ?_); rintro e w7 ⟨rfl, h9⟩; have h8 := h9.symm; clear h9; subst h8))
  have hmk := fun W => run_made W n h2
  have hsz := hw6.size
  have hG6 := hG
  have hTl : T < w6.heap.size := hA.2.1
  have hGl : G < w6.heap.size := hA.2.2.2.lt
  go_region
  · clear hmk c1 c2
    have hB : BoardAt _ (w6.heap.size + 1 + 1) (w6.heap.size) (w6.heap.size + 1) n (fun _ => 0) (fun _ => 0) := board_new w6 n
    have hr8 := board_below w6 (.cells (madeCells #[.int .i64 0] n) 3) (.cells (madeCells #[.int .i64 0] n) 3) (.cells #[.slice (some ⟨w6.heap.size, 0, none⟩) n n, .slice (some ⟨w6.heap.size + 1, 0, none⟩) n n] 31)
    go_wp2
    go_loopw [45] (fun i wr => PlayR T G (w6.heap.size + 1 + 1) (w6.heap.size) (w6.heap.size + 1) n len w i wr) (fun i _ => len - (intOf i).toNat)
    case atStart => exact ⟨0, fun _ => 0, fun _ => 0, by omega, rfl, (hA.below hr8 hTl hGl), hB, fun j hj => by simp, hw6.trans (hr8.mono hsz)⟩
    case round =>
      clear hA hr8 hB
      obtain ⟨k, E, O, hk, rfl, hA, hB, hbd, hbw⟩ := hrel
      by_cases hlt : k < len
      · have hlt' : (k : Int) < len := by omega
        obtain ⟨b, off, rfl, hbl, hcell⟩ := (hX.below hbw (Nat.le_refl _)) k hlt
        have k0 : wr.cell? ⟨b, off + k * 3, none⟩ = some (.int .i64 (X k 0)) := by have := (hcell 0 (by omega)).1; simpa using this
        have k1 : wr.cell? ⟨b, off + k * 3 + 1, none⟩ = some (.int .i64 (X k 1)) := by have := (hcell 1 (by omega)).1; simpa [Nat.add_assoc] using this
        have k2 : wr.cell? ⟨b, off + k * 3 + 2, none⟩ = some (.int .i64 (X k 2)) := by have := (hcell 2 (by omega)).1; simpa [Nat.add_assoc] using this
        have u0 := (hcell 0 (by omega)).2
        have u1 := (hcell 1 (by omega)).2
        have u2 := (hcell 2 (by omega)).2
        clear hcell
        generalize X k 0 = kd at k0 u0
        generalize X k 1 = p at k1 u1
        generalize X k 2 = x at k2 u2
        have tl1 := hA.2.1
        have tl2 := hA.2.2.2.lt
        have tl3 := hB.2.2.2.1
        have tl4 := hB.2.2.2.2.2.2.1.lt
        have tl5 := hB.2.2.2.2.2.2.2.lt
        by_cases hkd : kd = 0
        · subst hkd
          by_cases hp : 0 ≤ p ∧ p < (n : Int)
          · obtain ⟨m, rfl⟩ := Int.eq_ofNat_of_zero_le hp.1
            have hm : m < n := by omega
            have bm := hbd m hm
            by_cases hx : 1 ≤ x ∧ x ≤ 100000
            · have hbdk : ∀ j, j < n → 0 ≤ O j ∧ O j ≤ upd E m (E m + x) j ∧ upd E m (E m + x) j ≤ 100000 * ((k + 1 : Nat) : Int) := fun j hj => by have := hbd j hj; unfold upd; split <;> (try subst j) <;> omega
              have hbd10 : ∀ j, j < n → 0 ≤ O j ∧ O j ≤ upd E m (E m + x) j ∧ upd E m (E m + x) j ≤ 100000000 := fun j hj => by have := hbdk j hj; omega
              go_wp2_with fail
              have hAW : TopAt (wr.alloc (.cells #[.int .i64 0, .int .i64 (m : Int), .int .i64 x] 33)) T G n E O := hA.kept (Below.heap_alloc _ _ _ tl1) (Below.heap_alloc _ _ _ tl2)
              have hBW : BoardAt (wr.alloc (.cells #[.int .i64 0, .int .i64 (m : Int), .int .i64 x] 33)) (w6.heap.size + 1 + 1) (w6.heap.size) (w6.heap.size + 1) n E O := hB.kept (Below.heap_alloc _ _ _ tl3) (Below.heap_alloc _ _ _ tl4) (Below.heap_alloc _ _ _ tl5)
              have hbW : Below w.heap.size w (wr.alloc (.cells #[.int .i64 0, .int .i64 (m : Int), .int .i64 x] 33)) := hbw.alloc hbw.size _
              have hsW : wr.heap.size < (wr.alloc (.cells #[.int .i64 0, .int .i64 (m : Int), .int .i64 x] 33)).heap.size := by simp
              have e0 : (wr.alloc (.cells #[.int .i64 0, .int .i64 (m : Int), .int .i64 x] 33)).cell? ⟨wr.heap.size, 0, none⟩ = some (.int .i64 0) := cell_at rfl rfl
              have e1 : (wr.alloc (.cells #[.int .i64 0, .int .i64 (m : Int), .int .i64 x] 33)).cell? ⟨wr.heap.size, 1, none⟩ = some (.int .i64 (m : Int)) := cell_at rfl rfl
              have e2 : (wr.alloc (.cells #[.int .i64 0, .int .i64 (m : Int), .int .i64 x] 33)).cell? ⟨wr.heap.size, 2, none⟩ = some (.int .i64 x) := cell_at rfl rfl
              clear hA hB hbw k0 k1 k2
              generalize wr.alloc (.cells #[.int .i64 0, .int .i64 (m : Int), .int .i64 x] 33) = W at *
              generalize wr.heap.size = C at *
              go_region_held (fun w' => w'.cell? ⟨C, 1, none⟩ = some (.int .i64 (m : Int)) ∧ w'.cell? ⟨C, 2, none⟩ = some (.int .i64 x)) (first | exact ⟨g1, g2⟩ | exact ⟨f1, f2⟩ | exact ⟨e1, e2⟩) (first
                | (go_at_call 6; (with_reducible refine (topMake T G n m x E O _ hAW.drew hm hx (by omega)).mono ?_); rintro e w9 ⟨rfl, hA9, hO9⟩; have hB9 := hBW.drew.only hO9 (by omega) (by omega) (by omega); have f1 : w9.cell? ⟨C, 1, none⟩ = some (.int .i64 (m : Int)) := (only_cell hO9 (by omega)).trans e1; have f2 : w9.cell? ⟨C, 2, none⟩ = some (.int .i64 x) := (only_cell hO9 (by omega)).trans e2; have hb9 : Below w.heap.size w w9 := hbW.drew.trans (hO9.below hG6))
                | (go_at_call 7; (with_reducible refine (bMake_yes (w6.heap.size + 1 + 1) (w6.heap.size) (w6.heap.size + 1) n m E O x _ hB9 h2 hm hx (by omega)).mono ?_); rintro e w10 ⟨rfl, hB10, hO10⟩; have hA10 := hA9.only hO10 (by omega) (by omega); have g1 : w10.cell? ⟨C, 1, none⟩ = some (.int .i64 (m : Int)) := (only_cell hO10 (by omega)).trans f1; have g2 : w10.cell? ⟨C, 2, none⟩ = some (.int .i64 x) := (only_cell hO10 (by omega)).trans f2; have hb10 : Below w.heap.size w w10 := hb9.trans (hO10.below (by omega)); have s10 := hO10.size; have s9 : w9.heap.size = W.heap.size := hO9.size))
              go_wp2_with (first
                | (go_at_call 11; (with_reducible refine (lags_any T G n (upd E m (E m + x)) O _ hA10 h2 hbd10).mono ?_); rintro e w11 ⟨L, rfl, hL, hR11, hb11⟩; have s11 := hb11.size; have hL11 := hR11.lt; have hB11 := hB10.below hb11 (by omega) (by omega) (by omega); have hA11 := hA10.below hb11 (by omega) (by omega))
                | (go_at_call 12; (with_reducible refine (bLags (w6.heap.size + 1 + 1) (w6.heap.size) (w6.heap.size + 1) n (upd E m (E m + x)) O _ hB11 h1 h2 hbd10).mono ?_); rintro e w12 ⟨L', c', rfl, hL', hR12, hb12⟩; have hR13 := hR11.below hb12 hL11; have hA12 := hA11.below hb12 (by omega) (by omega); have hB12 := hB11.below hb12 (by omega) (by omega) (by omega))
                | (go_at_call 10; (with_reducible refine (equal_yes L L' n n c' (dif (upd E m (E m + x)) O) (dif (upd E m (E m + x)) O) _ hR13 hR12 h2 (fun _ _ => rfl)).mono ?_); rintro e w13 ⟨rfl, q, h9⟩; have hA13 : TopAt w13 T G n (upd E m (E m + x)) O := (by rw [h9]; exact hA12.drewN q); have hB13 : BoardAt w13 (w6.heap.size + 1 + 1) (w6.heap.size) (w6.heap.size + 1) n (upd E m (E m + x)) O := (by rw [h9]; exact hB12.drewN q); have hb13 : Below w.heap.size w w13 := (by rw [h9]; exact below_drewN ((hb10.trans (hb11.mono hb10.size)).trans (hb12.mono (Nat.le_trans hb10.size s11))) q); clear h9))
              go_roundw
              case rel => exact ⟨k + 1, (upd E m (E m + x)), O, by omega, rfl, hA13, hB13, hbdk, hb13⟩
              case measure => simp [intOf]; omega
            · have hbdk : ∀ j, j < n → 0 ≤ O j ∧ O j ≤ E j ∧ E j ≤ 100000 * ((k + 1 : Nat) : Int) := fun j hj => by have := hbd j hj; omega
              have hbd10 : ∀ j, j < n → 0 ≤ O j ∧ O j ≤ E j ∧ E j ≤ 100000000 := fun j hj => by have := hbdk j hj; omega
              go_wp2_with fail
              have hAW : TopAt (wr.alloc (.cells #[.int .i64 0, .int .i64 (m : Int), .int .i64 x] 33)) T G n E O := hA.kept (Below.heap_alloc _ _ _ tl1) (Below.heap_alloc _ _ _ tl2)
              have hBW : BoardAt (wr.alloc (.cells #[.int .i64 0, .int .i64 (m : Int), .int .i64 x] 33)) (w6.heap.size + 1 + 1) (w6.heap.size) (w6.heap.size + 1) n E O := hB.kept (Below.heap_alloc _ _ _ tl3) (Below.heap_alloc _ _ _ tl4) (Below.heap_alloc _ _ _ tl5)
              have hbW : Below w.heap.size w (wr.alloc (.cells #[.int .i64 0, .int .i64 (m : Int), .int .i64 x] 33)) := hbw.alloc hbw.size _
              have hsW : wr.heap.size < (wr.alloc (.cells #[.int .i64 0, .int .i64 (m : Int), .int .i64 x] 33)).heap.size := by simp
              have e0 : (wr.alloc (.cells #[.int .i64 0, .int .i64 (m : Int), .int .i64 x] 33)).cell? ⟨wr.heap.size, 0, none⟩ = some (.int .i64 0) := cell_at rfl rfl
              have e1 : (wr.alloc (.cells #[.int .i64 0, .int .i64 (m : Int), .int .i64 x] 33)).cell? ⟨wr.heap.size, 1, none⟩ = some (.int .i64 (m : Int)) := cell_at rfl rfl
              have e2 : (wr.alloc (.cells #[.int .i64 0, .int .i64 (m : Int), .int .i64 x] 33)).cell? ⟨wr.heap.size, 2, none⟩ = some (.int .i64 x) := cell_at rfl rfl
              clear hA hB hbw k0 k1 k2
              generalize wr.alloc (.cells #[.int .i64 0, .int .i64 (m : Int), .int .i64 x] 33) = W at *
              generalize wr.heap.size = C at *
              have c1 := fun q => make_arg T G n m x (W.drewN q) hAW.2.2.1 (by omega) (by omega) hx
              have c2 := fun q => bMake_arg (w6.heap.size + 1 + 1) (w6.heap.size) (w6.heap.size + 1) n E O m x (W.drewN q) (hBW.drewN q) h2 (by omega) (by omega) hx
              go_quiet (first | (go_at_call 6; with_reducible refine Calls.quiet_of_same (c1 _)) | (go_at_call 7; with_reducible refine Calls.quiet_of_same (c2 _)))
              have hA10 := hAW.drewN nq
              have hB10 := hBW.drewN nq
              have hb10 := below_drewN hbW nq
              have s10 : (W.drewN nq).heap.size = W.heap.size := rfl
              go_wp2_with (first
                | (go_at_call 11; (with_reducible refine (lags_any T G n E O _ hA10 h2 hbd10).mono ?_); rintro e w11 ⟨L, rfl, hL, hR11, hb11⟩; have s11 := hb11.size; have hL11 := hR11.lt; have hB11 := hB10.below hb11 (by omega) (by omega) (by omega); have hA11 := hA10.below hb11 (by omega) (by omega))
                | (go_at_call 12; (with_reducible refine (bLags (w6.heap.size + 1 + 1) (w6.heap.size) (w6.heap.size + 1) n E O _ hB11 h1 h2 hbd10).mono ?_); rintro e w12 ⟨L', c', rfl, hL', hR12, hb12⟩; have hR13 := hR11.below hb12 hL11; have hA12 := hA11.below hb12 (by omega) (by omega); have hB12 := hB11.below hb12 (by omega) (by omega) (by omega))
                | (go_at_call 10; (with_reducible refine (equal_yes L L' n n c' (dif E O) (dif E O) _ hR13 hR12 h2 (fun _ _ => rfl)).mono ?_); rintro e w13 ⟨rfl, q, h9⟩; have hA13 : TopAt w13 T G n E O := (by rw [h9]; exact hA12.drewN q); have hB13 : BoardAt w13 (w6.heap.size + 1 + 1) (w6.heap.size) (w6.heap.size + 1) n E O := (by rw [h9]; exact hB12.drewN q); have hb13 : Below w.heap.size w w13 := (by rw [h9]; exact below_drewN ((hb10.trans (hb11.mono hb10.size)).trans (hb12.mono (Nat.le_trans hb10.size s11))) q); clear h9))
              go_roundw
              case rel => exact ⟨k + 1, E, O, by omega, rfl, hA13, hB13, hbdk, hb13⟩
              case measure => simp [intOf]; omega
          · have hbdk : ∀ j, j < n → 0 ≤ O j ∧ O j ≤ E j ∧ E j ≤ 100000 * ((k + 1 : Nat) : Int) := fun j hj => by have := hbd j hj; omega
            have hbd10 : ∀ j, j < n → 0 ≤ O j ∧ O j ≤ E j ∧ E j ≤ 100000000 := fun j hj => by have := hbdk j hj; omega
            go_wp2_with fail
            have hAW : TopAt (wr.alloc (.cells #[.int .i64 0, .int .i64 p, .int .i64 x] 33)) T G n E O := hA.kept (Below.heap_alloc _ _ _ tl1) (Below.heap_alloc _ _ _ tl2)
            have hBW : BoardAt (wr.alloc (.cells #[.int .i64 0, .int .i64 p, .int .i64 x] 33)) (w6.heap.size + 1 + 1) (w6.heap.size) (w6.heap.size + 1) n E O := hB.kept (Below.heap_alloc _ _ _ tl3) (Below.heap_alloc _ _ _ tl4) (Below.heap_alloc _ _ _ tl5)
            have hbW : Below w.heap.size w (wr.alloc (.cells #[.int .i64 0, .int .i64 p, .int .i64 x] 33)) := hbw.alloc hbw.size _
            have hsW : wr.heap.size < (wr.alloc (.cells #[.int .i64 0, .int .i64 p, .int .i64 x] 33)).heap.size := by simp
            have e0 : (wr.alloc (.cells #[.int .i64 0, .int .i64 p, .int .i64 x] 33)).cell? ⟨wr.heap.size, 0, none⟩ = some (.int .i64 0) := cell_at rfl rfl
            have e1 : (wr.alloc (.cells #[.int .i64 0, .int .i64 p, .int .i64 x] 33)).cell? ⟨wr.heap.size, 1, none⟩ = some (.int .i64 p) := cell_at rfl rfl
            have e2 : (wr.alloc (.cells #[.int .i64 0, .int .i64 p, .int .i64 x] 33)).cell? ⟨wr.heap.size, 2, none⟩ = some (.int .i64 x) := cell_at rfl rfl
            clear hA hB hbw k0 k1 k2
            generalize wr.alloc (.cells #[.int .i64 0, .int .i64 p, .int .i64 x] 33) = W at *
            generalize wr.heap.size = C at *
            have c1 := fun q => make_none T G n p x (W.drewN q) hAW.2.2.1 hp
            have c2 := fun q => bMake_none (w6.heap.size + 1 + 1) (w6.heap.size) (w6.heap.size + 1) n E O p x (W.drewN q) (hBW.drewN q) h1 h2 hp
            go_quiet (first | (go_at_call 6; with_reducible refine Calls.quiet_of_same (c1 _)) | (go_at_call 7; with_reducible refine Calls.quiet_of_same (c2 _)))
            have hA10 := hAW.drewN nq
            have hB10 := hBW.drewN nq
            have hb10 := below_drewN hbW nq
            have s10 : (W.drewN nq).heap.size = W.heap.size := rfl
            go_wp2_with (first
              | (go_at_call 11; (with_reducible refine (lags_any T G n E O _ hA10 h2 hbd10).mono ?_); rintro e w11 ⟨L, rfl, hL, hR11, hb11⟩; have s11 := hb11.size; have hL11 := hR11.lt; have hB11 := hB10.below hb11 (by omega) (by omega) (by omega); have hA11 := hA10.below hb11 (by omega) (by omega))
              | (go_at_call 12; (with_reducible refine (bLags (w6.heap.size + 1 + 1) (w6.heap.size) (w6.heap.size + 1) n E O _ hB11 h1 h2 hbd10).mono ?_); rintro e w12 ⟨L', c', rfl, hL', hR12, hb12⟩; have hR13 := hR11.below hb12 hL11; have hA12 := hA11.below hb12 (by omega) (by omega); have hB12 := hB11.below hb12 (by omega) (by omega) (by omega))
              | (go_at_call 10; (with_reducible refine (equal_yes L L' n n c' (dif E O) (dif E O) _ hR13 hR12 h2 (fun _ _ => rfl)).mono ?_); rintro e w13 ⟨rfl, q, h9⟩; have hA13 : TopAt w13 T G n E O := (by rw [h9]; exact hA12.drewN q); have hB13 : BoardAt w13 (w6.heap.size + 1 + 1) (w6.heap.size) (w6.heap.size + 1) n E O := (by rw [h9]; exact hB12.drewN q); have hb13 : Below w.heap.size w w13 := (by rw [h9]; exact below_drewN ((hb10.trans (hb11.mono hb10.size)).trans (hb12.mono (Nat.le_trans hb10.size s11))) q); clear h9))
            go_roundw
            case rel => exact ⟨k + 1, E, O, by omega, rfl, hA13, hB13, hbdk, hb13⟩
            case measure => simp [intOf]; omega
        · by_cases hk1 : kd = 1
          · subst hk1
            by_cases hp : 0 ≤ p ∧ p < (n : Int)
            · obtain ⟨m, rfl⟩ := Int.eq_ofNat_of_zero_le hp.1
              have hm : m < n := by omega
              have bm := hbd m hm
              by_cases hx : O m ≤ x ∧ x ≤ E m
              · have hbdk : ∀ j, j < n → 0 ≤ upd O m x j ∧ upd O m x j ≤ E j ∧ E j ≤ 100000 * ((k + 1 : Nat) : Int) := fun j hj => by have := hbd j hj; unfold upd; split <;> (try subst j) <;> omega
                have hbd10 : ∀ j, j < n → 0 ≤ upd O m x j ∧ upd O m x j ≤ E j ∧ E j ≤ 100000000 := fun j hj => by have := hbdk j hj; omega
                go_wp2_with fail
                have hAW : TopAt (wr.alloc (.cells #[.int .i64 1, .int .i64 (m : Int), .int .i64 x] 33)) T G n E O := hA.kept (Below.heap_alloc _ _ _ tl1) (Below.heap_alloc _ _ _ tl2)
                have hBW : BoardAt (wr.alloc (.cells #[.int .i64 1, .int .i64 (m : Int), .int .i64 x] 33)) (w6.heap.size + 1 + 1) (w6.heap.size) (w6.heap.size + 1) n E O := hB.kept (Below.heap_alloc _ _ _ tl3) (Below.heap_alloc _ _ _ tl4) (Below.heap_alloc _ _ _ tl5)
                have hbW : Below w.heap.size w (wr.alloc (.cells #[.int .i64 1, .int .i64 (m : Int), .int .i64 x] 33)) := hbw.alloc hbw.size _
                have hsW : wr.heap.size < (wr.alloc (.cells #[.int .i64 1, .int .i64 (m : Int), .int .i64 x] 33)).heap.size := by simp
                have e0 : (wr.alloc (.cells #[.int .i64 1, .int .i64 (m : Int), .int .i64 x] 33)).cell? ⟨wr.heap.size, 0, none⟩ = some (.int .i64 1) := cell_at rfl rfl
                have e1 : (wr.alloc (.cells #[.int .i64 1, .int .i64 (m : Int), .int .i64 x] 33)).cell? ⟨wr.heap.size, 1, none⟩ = some (.int .i64 (m : Int)) := cell_at rfl rfl
                have e2 : (wr.alloc (.cells #[.int .i64 1, .int .i64 (m : Int), .int .i64 x] 33)).cell? ⟨wr.heap.size, 2, none⟩ = some (.int .i64 x) := cell_at rfl rfl
                clear hA hB hbw k0 k1 k2
                generalize wr.alloc (.cells #[.int .i64 1, .int .i64 (m : Int), .int .i64 x] 33) = W at *
                generalize wr.heap.size = C at *
                go_region_held (fun w' => w'.cell? ⟨C, 1, none⟩ = some (.int .i64 (m : Int)) ∧ w'.cell? ⟨C, 2, none⟩ = some (.int .i64 x)) (first | exact ⟨g1, g2⟩ | exact ⟨f1, f2⟩ | exact ⟨e1, e2⟩) (first
                  | (go_at_call 8; (with_reducible refine (topTake T G n m x E O _ hAW.drew hm hx.1 hx.2).mono ?_); rintro e w9 ⟨rfl, hA9, hO9⟩; have hB9 := hBW.drew.only hO9 (by omega) (by omega) (by omega); have f1 : w9.cell? ⟨C, 1, none⟩ = some (.int .i64 (m : Int)) := (only_cell hO9 (by omega)).trans e1; have f2 : w9.cell? ⟨C, 2, none⟩ = some (.int .i64 x) := (only_cell hO9 (by omega)).trans e2; have hb9 : Below w.heap.size w w9 := hbW.drew.trans (hO9.below hG6))
                  | (go_at_call 9; (with_reducible refine (bTake_yes (w6.heap.size + 1 + 1) (w6.heap.size) (w6.heap.size + 1) n m E O x _ hB9 h2 hm hx.1 hx.2).mono ?_); rintro e w10 ⟨rfl, hB10, hO10⟩; have hA10 := hA9.only hO10 (by omega) (by omega); have g1 : w10.cell? ⟨C, 1, none⟩ = some (.int .i64 (m : Int)) := (only_cell hO10 (by omega)).trans f1; have g2 : w10.cell? ⟨C, 2, none⟩ = some (.int .i64 x) := (only_cell hO10 (by omega)).trans f2; have hb10 : Below w.heap.size w w10 := hb9.trans (hO10.below (by omega)); have s10 := hO10.size; have s9 : w9.heap.size = W.heap.size := hO9.size))
                go_wp2_with (first
                  | (go_at_call 11; (with_reducible refine (lags_any T G n E (upd O m x) _ hA10 h2 hbd10).mono ?_); rintro e w11 ⟨L, rfl, hL, hR11, hb11⟩; have s11 := hb11.size; have hL11 := hR11.lt; have hB11 := hB10.below hb11 (by omega) (by omega) (by omega); have hA11 := hA10.below hb11 (by omega) (by omega))
                  | (go_at_call 12; (with_reducible refine (bLags (w6.heap.size + 1 + 1) (w6.heap.size) (w6.heap.size + 1) n E (upd O m x) _ hB11 h1 h2 hbd10).mono ?_); rintro e w12 ⟨L', c', rfl, hL', hR12, hb12⟩; have hR13 := hR11.below hb12 hL11; have hA12 := hA11.below hb12 (by omega) (by omega); have hB12 := hB11.below hb12 (by omega) (by omega) (by omega))
                  | (go_at_call 10; (with_reducible refine (equal_yes L L' n n c' (dif E (upd O m x)) (dif E (upd O m x)) _ hR13 hR12 h2 (fun _ _ => rfl)).mono ?_); rintro e w13 ⟨rfl, q, h9⟩; have hA13 : TopAt w13 T G n E (upd O m x) := (by rw [h9]; exact hA12.drewN q); have hB13 : BoardAt w13 (w6.heap.size + 1 + 1) (w6.heap.size) (w6.heap.size + 1) n E (upd O m x) := (by rw [h9]; exact hB12.drewN q); have hb13 : Below w.heap.size w w13 := (by rw [h9]; exact below_drewN ((hb10.trans (hb11.mono hb10.size)).trans (hb12.mono (Nat.le_trans hb10.size s11))) q); clear h9))
                go_roundw
                case rel => exact ⟨k + 1, E, (upd O m x), by omega, rfl, hA13, hB13, hbdk, hb13⟩
                case measure => simp [intOf]; omega
              · have hbdk : ∀ j, j < n → 0 ≤ O j ∧ O j ≤ E j ∧ E j ≤ 100000 * ((k + 1 : Nat) : Int) := fun j hj => by have := hbd j hj; omega
                have hbd10 : ∀ j, j < n → 0 ≤ O j ∧ O j ≤ E j ∧ E j ≤ 100000000 := fun j hj => by have := hbdk j hj; omega
                go_wp2_with fail
                have hAW : TopAt (wr.alloc (.cells #[.int .i64 1, .int .i64 (m : Int), .int .i64 x] 33)) T G n E O := hA.kept (Below.heap_alloc _ _ _ tl1) (Below.heap_alloc _ _ _ tl2)
                have hBW : BoardAt (wr.alloc (.cells #[.int .i64 1, .int .i64 (m : Int), .int .i64 x] 33)) (w6.heap.size + 1 + 1) (w6.heap.size) (w6.heap.size + 1) n E O := hB.kept (Below.heap_alloc _ _ _ tl3) (Below.heap_alloc _ _ _ tl4) (Below.heap_alloc _ _ _ tl5)
                have hbW : Below w.heap.size w (wr.alloc (.cells #[.int .i64 1, .int .i64 (m : Int), .int .i64 x] 33)) := hbw.alloc hbw.size _
                have hsW : wr.heap.size < (wr.alloc (.cells #[.int .i64 1, .int .i64 (m : Int), .int .i64 x] 33)).heap.size := by simp
                have e0 : (wr.alloc (.cells #[.int .i64 1, .int .i64 (m : Int), .int .i64 x] 33)).cell? ⟨wr.heap.size, 0, none⟩ = some (.int .i64 1) := cell_at rfl rfl
                have e1 : (wr.alloc (.cells #[.int .i64 1, .int .i64 (m : Int), .int .i64 x] 33)).cell? ⟨wr.heap.size, 1, none⟩ = some (.int .i64 (m : Int)) := cell_at rfl rfl
                have e2 : (wr.alloc (.cells #[.int .i64 1, .int .i64 (m : Int), .int .i64 x] 33)).cell? ⟨wr.heap.size, 2, none⟩ = some (.int .i64 x) := cell_at rfl rfl
                clear hA hB hbw k0 k1 k2
                generalize wr.alloc (.cells #[.int .i64 1, .int .i64 (m : Int), .int .i64 x] 33) = W at *
                generalize wr.heap.size = C at *
                have c1 := fun q => topTake_no T G n m x E O (W.drewN q) (hAW.drewN q) hm hx
                have c2 := fun q => bTake_no (w6.heap.size + 1 + 1) (w6.heap.size) (w6.heap.size + 1) n m E O x (W.drewN q) (hBW.drewN q) h2 hm hx
                go_quiet (first | (go_at_call 8; with_reducible refine Calls.quiet_of_same (c1 _)) | (go_at_call 9; with_reducible refine Calls.quiet_of (c2 _)))
                have hA10 := hAW.drewN nq
                have hB10 := hBW.drewN nq
                have hb10 := below_drewN hbW nq
                have s10 : (W.drewN nq).heap.size = W.heap.size := rfl
                go_wp2_with (first
                  | (go_at_call 11; (with_reducible refine (lags_any T G n E O _ hA10 h2 hbd10).mono ?_); rintro e w11 ⟨L, rfl, hL, hR11, hb11⟩; have s11 := hb11.size; have hL11 := hR11.lt; have hB11 := hB10.below hb11 (by omega) (by omega) (by omega); have hA11 := hA10.below hb11 (by omega) (by omega))
                  | (go_at_call 12; (with_reducible refine (bLags (w6.heap.size + 1 + 1) (w6.heap.size) (w6.heap.size + 1) n E O _ hB11 h1 h2 hbd10).mono ?_); rintro e w12 ⟨L', c', rfl, hL', hR12, hb12⟩; have hR13 := hR11.below hb12 hL11; have hA12 := hA11.below hb12 (by omega) (by omega); have hB12 := hB11.below hb12 (by omega) (by omega) (by omega))
                  | (go_at_call 10; (with_reducible refine (equal_yes L L' n n c' (dif E O) (dif E O) _ hR13 hR12 h2 (fun _ _ => rfl)).mono ?_); rintro e w13 ⟨rfl, q, h9⟩; have hA13 : TopAt w13 T G n E O := (by rw [h9]; exact hA12.drewN q); have hB13 : BoardAt w13 (w6.heap.size + 1 + 1) (w6.heap.size) (w6.heap.size + 1) n E O := (by rw [h9]; exact hB12.drewN q); have hb13 : Below w.heap.size w w13 := (by rw [h9]; exact below_drewN ((hb10.trans (hb11.mono hb10.size)).trans (hb12.mono (Nat.le_trans hb10.size s11))) q); clear h9))
                go_roundw
                case rel => exact ⟨k + 1, E, O, by omega, rfl, hA13, hB13, hbdk, hb13⟩
                case measure => simp [intOf]; omega
            · have hbdk : ∀ j, j < n → 0 ≤ O j ∧ O j ≤ E j ∧ E j ≤ 100000 * ((k + 1 : Nat) : Int) := fun j hj => by have := hbd j hj; omega
              have hbd10 : ∀ j, j < n → 0 ≤ O j ∧ O j ≤ E j ∧ E j ≤ 100000000 := fun j hj => by have := hbdk j hj; omega
              go_wp2_with fail
              have hAW : TopAt (wr.alloc (.cells #[.int .i64 1, .int .i64 p, .int .i64 x] 33)) T G n E O := hA.kept (Below.heap_alloc _ _ _ tl1) (Below.heap_alloc _ _ _ tl2)
              have hBW : BoardAt (wr.alloc (.cells #[.int .i64 1, .int .i64 p, .int .i64 x] 33)) (w6.heap.size + 1 + 1) (w6.heap.size) (w6.heap.size + 1) n E O := hB.kept (Below.heap_alloc _ _ _ tl3) (Below.heap_alloc _ _ _ tl4) (Below.heap_alloc _ _ _ tl5)
              have hbW : Below w.heap.size w (wr.alloc (.cells #[.int .i64 1, .int .i64 p, .int .i64 x] 33)) := hbw.alloc hbw.size _
              have hsW : wr.heap.size < (wr.alloc (.cells #[.int .i64 1, .int .i64 p, .int .i64 x] 33)).heap.size := by simp
              have e0 : (wr.alloc (.cells #[.int .i64 1, .int .i64 p, .int .i64 x] 33)).cell? ⟨wr.heap.size, 0, none⟩ = some (.int .i64 1) := cell_at rfl rfl
              have e1 : (wr.alloc (.cells #[.int .i64 1, .int .i64 p, .int .i64 x] 33)).cell? ⟨wr.heap.size, 1, none⟩ = some (.int .i64 p) := cell_at rfl rfl
              have e2 : (wr.alloc (.cells #[.int .i64 1, .int .i64 p, .int .i64 x] 33)).cell? ⟨wr.heap.size, 2, none⟩ = some (.int .i64 x) := cell_at rfl rfl
              clear hA hB hbw k0 k1 k2
              generalize wr.alloc (.cells #[.int .i64 1, .int .i64 p, .int .i64 x] 33) = W at *
              generalize wr.heap.size = C at *
              have c1 := fun q => take_none T G n p x (W.drewN q) hAW.2.2.1 hp
              have c2 := fun q => bTake_none (w6.heap.size + 1 + 1) (w6.heap.size) (w6.heap.size + 1) n E O p x (W.drewN q) (hBW.drewN q) h1 h2 hp
              go_quiet (first | (go_at_call 8; with_reducible refine Calls.quiet_of_same (c1 _)) | (go_at_call 9; with_reducible refine Calls.quiet_of_same (c2 _)))
              have hA10 := hAW.drewN nq
              have hB10 := hBW.drewN nq
              have hb10 := below_drewN hbW nq
              have s10 : (W.drewN nq).heap.size = W.heap.size := rfl
              go_wp2_with (first
                | (go_at_call 11; (with_reducible refine (lags_any T G n E O _ hA10 h2 hbd10).mono ?_); rintro e w11 ⟨L, rfl, hL, hR11, hb11⟩; have s11 := hb11.size; have hL11 := hR11.lt; have hB11 := hB10.below hb11 (by omega) (by omega) (by omega); have hA11 := hA10.below hb11 (by omega) (by omega))
                | (go_at_call 12; (with_reducible refine (bLags (w6.heap.size + 1 + 1) (w6.heap.size) (w6.heap.size + 1) n E O _ hB11 h1 h2 hbd10).mono ?_); rintro e w12 ⟨L', c', rfl, hL', hR12, hb12⟩; have hR13 := hR11.below hb12 hL11; have hA12 := hA11.below hb12 (by omega) (by omega); have hB12 := hB11.below hb12 (by omega) (by omega) (by omega))
                | (go_at_call 10; (with_reducible refine (equal_yes L L' n n c' (dif E O) (dif E O) _ hR13 hR12 h2 (fun _ _ => rfl)).mono ?_); rintro e w13 ⟨rfl, q, h9⟩; have hA13 : TopAt w13 T G n E O := (by rw [h9]; exact hA12.drewN q); have hB13 : BoardAt w13 (w6.heap.size + 1 + 1) (w6.heap.size) (w6.heap.size + 1) n E O := (by rw [h9]; exact hB12.drewN q); have hb13 : Below w.heap.size w w13 := (by rw [h9]; exact below_drewN ((hb10.trans (hb11.mono hb10.size)).trans (hb12.mono (Nat.le_trans hb10.size s11))) q); clear h9))
              go_roundw
              case rel => exact ⟨k + 1, E, O, by omega, rfl, hA13, hB13, hbdk, hb13⟩
              case measure => simp [intOf]; omega
          · have hbdk : ∀ j, j < n → 0 ≤ O j ∧ O j ≤ E j ∧ E j ≤ 100000 * ((k + 1 : Nat) : Int) := fun j hj => by have := hbd j hj; omega
            have hbd10 : ∀ j, j < n → 0 ≤ O j ∧ O j ≤ E j ∧ E j ≤ 100000000 := fun j hj => by have := hbdk j hj; omega
            go_wp2_with fail
            have hAW : TopAt (wr.alloc (.cells #[.int .i64 kd, .int .i64 p, .int .i64 x] 33)) T G n E O := hA.kept (Below.heap_alloc _ _ _ tl1) (Below.heap_alloc _ _ _ tl2)
            have hBW : BoardAt (wr.alloc (.cells #[.int .i64 kd, .int .i64 p, .int .i64 x] 33)) (w6.heap.size + 1 + 1) (w6.heap.size) (w6.heap.size + 1) n E O := hB.kept (Below.heap_alloc _ _ _ tl3) (Below.heap_alloc _ _ _ tl4) (Below.heap_alloc _ _ _ tl5)
            have hbW : Below w.heap.size w (wr.alloc (.cells #[.int .i64 kd, .int .i64 p, .int .i64 x] 33)) := hbw.alloc hbw.size _
            have hsW : wr.heap.size < (wr.alloc (.cells #[.int .i64 kd, .int .i64 p, .int .i64 x] 33)).heap.size := by simp
            have e0 : (wr.alloc (.cells #[.int .i64 kd, .int .i64 p, .int .i64 x] 33)).cell? ⟨wr.heap.size, 0, none⟩ = some (.int .i64 kd) := cell_at rfl rfl
            have e1 : (wr.alloc (.cells #[.int .i64 kd, .int .i64 p, .int .i64 x] 33)).cell? ⟨wr.heap.size, 1, none⟩ = some (.int .i64 p) := cell_at rfl rfl
            have e2 : (wr.alloc (.cells #[.int .i64 kd, .int .i64 p, .int .i64 x] 33)).cell? ⟨wr.heap.size, 2, none⟩ = some (.int .i64 x) := cell_at rfl rfl
            clear hA hB hbw k0 k1 k2
            generalize wr.alloc (.cells #[.int .i64 kd, .int .i64 p, .int .i64 x] 33) = W at *
            generalize wr.heap.size = C at *
            have hA10 := hAW
            have hB10 := hBW
            have hb10 := hbW
            go_wp2_with (first
              | (go_at_call 11; (with_reducible refine (lags_any T G n E O _ hA10 h2 hbd10).mono ?_); rintro e w11 ⟨L, rfl, hL, hR11, hb11⟩; have s11 := hb11.size; have hL11 := hR11.lt; have hB11 := hB10.below hb11 (by omega) (by omega) (by omega); have hA11 := hA10.below hb11 (by omega) (by omega))
              | (go_at_call 12; (with_reducible refine (bLags (w6.heap.size + 1 + 1) (w6.heap.size) (w6.heap.size + 1) n E O _ hB11 h1 h2 hbd10).mono ?_); rintro e w12 ⟨L', c', rfl, hL', hR12, hb12⟩; have hR13 := hR11.below hb12 hL11; have hA12 := hA11.below hb12 (by omega) (by omega); have hB12 := hB11.below hb12 (by omega) (by omega) (by omega))
              | (go_at_call 10; (with_reducible refine (equal_yes L L' n n c' (dif E O) (dif E O) _ hR13 hR12 h2 (fun _ _ => rfl)).mono ?_); rintro e w13 ⟨rfl, q, h9⟩; have hA13 : TopAt w13 T G n E O := (by rw [h9]; exact hA12.drewN q); have hB13 : BoardAt w13 (w6.heap.size + 1 + 1) (w6.heap.size) (w6.heap.size + 1) n E O := (by rw [h9]; exact hB12.drewN q); have hb13 : Below w.heap.size w w13 := (by rw [h9]; exact below_drewN ((hb10.trans (hb11.mono hb10.size)).trans (hb12.mono (Nat.le_trans hb10.size s11))) q); clear h9))
            go_roundw
            case rel => exact ⟨k + 1, E, O, by omega, rfl, hA13, hB13, hbdk, hb13⟩
            case measure => simp [intOf]; omega
      · have hbd10 : ∀ j, j < n → 0 ≤ O j ∧ O j ≤ E j ∧ E j ≤ 100000000 := fun j hj => by have := hbd j hj; omega
        have hA10 := hA
        have hB10 := hB
        have hb10 := hbw
        have tl1 := hA.2.1
        have tl2 := hA.2.2.2.lt
        have tl3 := hB.2.2.2.1
        have tl4 := hB.2.2.2.2.2.2.1.lt
        have tl5 := hB.2.2.2.2.2.2.2.lt
        clear hA hB hbw
        go_wp2_with (first
          | (go_at_call 11; (with_reducible refine (lags_any T G n E O _ hA10 h2 hbd10).mono ?_); rintro e w11 ⟨L, rfl, hL, hR11, hb11⟩; have s11 := hb11.size; have hL11 := hR11.lt; have hB11 := hB10.below hb11 (by omega) (by omega) (by omega); have hA11 := hA10.below hb11 (by omega) (by omega))
          | (go_at_call 12; (with_reducible refine (bLags (w6.heap.size + 1 + 1) (w6.heap.size) (w6.heap.size + 1) n E O _ hB11 h1 h2 hbd10).mono ?_); rintro e w12 ⟨L', c', rfl, hL', hR12, hb12⟩; have hR13 := hR11.below hb12 hL11; have hA12 := hA11.below hb12 (by omega) (by omega); have hB12 := hB11.below hb12 (by omega) (by omega) (by omega))
          | (go_at_call 10; (with_reducible refine (equal_yes L L' n n c' (dif E O) (dif E O) _ hR13 hR12 h2 (fun _ _ => rfl)).mono ?_); rintro e w13 ⟨rfl, q, h9⟩; have hA13 : TopAt w13 T G n E O := (by rw [h9]; exact hA12.drewN q); have hB13 : BoardAt w13 (w6.heap.size + 1 + 1) (w6.heap.size) (w6.heap.size + 1) n E O := (by rw [h9]; exact hB12.drewN q); have hb13 : Below w.heap.size w w13 := (by rw [h9]; exact below_drewN ((hb10.trans (hb11.mono hb10.size)).trans (hb12.mono (Nat.le_trans hb10.size s11))) q); clear h9))
        go_ret
        exact ⟨rfl, hb13⟩
  · clear hmk c1 c2
    have hB : BoardAt _ (w6.heap.size + 1 + 1) (w6.heap.size + 1) (w6.heap.size) n (fun _ => 0) (fun _ => 0) := board_new2 w6 n
    have hr8 := board_below w6 (.cells (madeCells #[.int .i64 0] n) 3) (.cells (madeCells #[.int .i64 0] n) 3) (.cells #[.slice (some ⟨w6.heap.size + 1, 0, none⟩) n n, .slice (some ⟨w6.heap.size, 0, none⟩) n n] 31)
    go_wp2
    go_loopw [45] (fun i wr => PlayR T G (w6.heap.size + 1 + 1) (w6.heap.size + 1) (w6.heap.size) n len w i wr) (fun i _ => len - (intOf i).toNat)
    case atStart => exact ⟨0, fun _ => 0, fun _ => 0, by omega, rfl, (hA.below hr8 hTl hGl), hB, fun j hj => by simp, hw6.trans (hr8.mono hsz)⟩
    case round =>
      clear hA hr8 hB
      obtain ⟨k, E, O, hk, rfl, hA, hB, hbd, hbw⟩ := hrel
      by_cases hlt : k < len
      · have hlt' : (k : Int) < len := by omega
        obtain ⟨b, off, rfl, hbl, hcell⟩ := (hX.below hbw (Nat.le_refl _)) k hlt
        have k0 : wr.cell? ⟨b, off + k * 3, none⟩ = some (.int .i64 (X k 0)) := by have := (hcell 0 (by omega)).1; simpa using this
        have k1 : wr.cell? ⟨b, off + k * 3 + 1, none⟩ = some (.int .i64 (X k 1)) := by have := (hcell 1 (by omega)).1; simpa [Nat.add_assoc] using this
        have k2 : wr.cell? ⟨b, off + k * 3 + 2, none⟩ = some (.int .i64 (X k 2)) := by have := (hcell 2 (by omega)).1; simpa [Nat.add_assoc] using this
        have u0 := (hcell 0 (by omega)).2
        have u1 := (hcell 1 (by omega)).2
        have u2 := (hcell 2 (by omega)).2
        clear hcell
        generalize X k 0 = kd at k0 u0
        generalize X k 1 = p at k1 u1
        generalize X k 2 = x at k2 u2
        have tl1 := hA.2.1
        have tl2 := hA.2.2.2.lt
        have tl3 := hB.2.2.2.1
        have tl4 := hB.2.2.2.2.2.2.1.lt
        have tl5 := hB.2.2.2.2.2.2.2.lt
        by_cases hkd : kd = 0
        · subst hkd
          by_cases hp : 0 ≤ p ∧ p < (n : Int)
          · obtain ⟨m, rfl⟩ := Int.eq_ofNat_of_zero_le hp.1
            have hm : m < n := by omega
            have bm := hbd m hm
            by_cases hx : 1 ≤ x ∧ x ≤ 100000
            · have hbdk : ∀ j, j < n → 0 ≤ O j ∧ O j ≤ upd E m (E m + x) j ∧ upd E m (E m + x) j ≤ 100000 * ((k + 1 : Nat) : Int) := fun j hj => by have := hbd j hj; unfold upd; split <;> (try subst j) <;> omega
              have hbd10 : ∀ j, j < n → 0 ≤ O j ∧ O j ≤ upd E m (E m + x) j ∧ upd E m (E m + x) j ≤ 100000000 := fun j hj => by have := hbdk j hj; omega
              go_wp2_with fail
              have hAW : TopAt (wr.alloc (.cells #[.int .i64 0, .int .i64 (m : Int), .int .i64 x] 33)) T G n E O := hA.kept (Below.heap_alloc _ _ _ tl1) (Below.heap_alloc _ _ _ tl2)
              have hBW : BoardAt (wr.alloc (.cells #[.int .i64 0, .int .i64 (m : Int), .int .i64 x] 33)) (w6.heap.size + 1 + 1) (w6.heap.size + 1) (w6.heap.size) n E O := hB.kept (Below.heap_alloc _ _ _ tl3) (Below.heap_alloc _ _ _ tl4) (Below.heap_alloc _ _ _ tl5)
              have hbW : Below w.heap.size w (wr.alloc (.cells #[.int .i64 0, .int .i64 (m : Int), .int .i64 x] 33)) := hbw.alloc hbw.size _
              have hsW : wr.heap.size < (wr.alloc (.cells #[.int .i64 0, .int .i64 (m : Int), .int .i64 x] 33)).heap.size := by simp
              have e0 : (wr.alloc (.cells #[.int .i64 0, .int .i64 (m : Int), .int .i64 x] 33)).cell? ⟨wr.heap.size, 0, none⟩ = some (.int .i64 0) := cell_at rfl rfl
              have e1 : (wr.alloc (.cells #[.int .i64 0, .int .i64 (m : Int), .int .i64 x] 33)).cell? ⟨wr.heap.size, 1, none⟩ = some (.int .i64 (m : Int)) := cell_at rfl rfl
              have e2 : (wr.alloc (.cells #[.int .i64 0, .int .i64 (m : Int), .int .i64 x] 33)).cell? ⟨wr.heap.size, 2, none⟩ = some (.int .i64 x) := cell_at rfl rfl
              clear hA hB hbw k0 k1 k2
              generalize wr.alloc (.cells #[.int .i64 0, .int .i64 (m : Int), .int .i64 x] 33) = W at *
              generalize wr.heap.size = C at *
              go_region_held (fun w' => w'.cell? ⟨C, 1, none⟩ = some (.int .i64 (m : Int)) ∧ w'.cell? ⟨C, 2, none⟩ = some (.int .i64 x)) (first | exact ⟨g1, g2⟩ | exact ⟨f1, f2⟩ | exact ⟨e1, e2⟩) (first
                | (go_at_call 6; (with_reducible refine (topMake T G n m x E O _ hAW.drew hm hx (by omega)).mono ?_); rintro e w9 ⟨rfl, hA9, hO9⟩; have hB9 := hBW.drew.only hO9 (by omega) (by omega) (by omega); have f1 : w9.cell? ⟨C, 1, none⟩ = some (.int .i64 (m : Int)) := (only_cell hO9 (by omega)).trans e1; have f2 : w9.cell? ⟨C, 2, none⟩ = some (.int .i64 x) := (only_cell hO9 (by omega)).trans e2; have hb9 : Below w.heap.size w w9 := hbW.drew.trans (hO9.below hG6))
                | (go_at_call 7; (with_reducible refine (bMake_yes (w6.heap.size + 1 + 1) (w6.heap.size + 1) (w6.heap.size) n m E O x _ hB9 h2 hm hx (by omega)).mono ?_); rintro e w10 ⟨rfl, hB10, hO10⟩; have hA10 := hA9.only hO10 (by omega) (by omega); have g1 : w10.cell? ⟨C, 1, none⟩ = some (.int .i64 (m : Int)) := (only_cell hO10 (by omega)).trans f1; have g2 : w10.cell? ⟨C, 2, none⟩ = some (.int .i64 x) := (only_cell hO10 (by omega)).trans f2; have hb10 : Below w.heap.size w w10 := hb9.trans (hO10.below (by omega)); have s10 := hO10.size; have s9 : w9.heap.size = W.heap.size := hO9.size))
              go_wp2_with (first
                | (go_at_call 11; (with_reducible refine (lags_any T G n (upd E m (E m + x)) O _ hA10 h2 hbd10).mono ?_); rintro e w11 ⟨L, rfl, hL, hR11, hb11⟩; have s11 := hb11.size; have hL11 := hR11.lt; have hB11 := hB10.below hb11 (by omega) (by omega) (by omega); have hA11 := hA10.below hb11 (by omega) (by omega))
                | (go_at_call 12; (with_reducible refine (bLags (w6.heap.size + 1 + 1) (w6.heap.size + 1) (w6.heap.size) n (upd E m (E m + x)) O _ hB11 h1 h2 hbd10).mono ?_); rintro e w12 ⟨L', c', rfl, hL', hR12, hb12⟩; have hR13 := hR11.below hb12 hL11; have hA12 := hA11.below hb12 (by omega) (by omega); have hB12 := hB11.below hb12 (by omega) (by omega) (by omega))
                | (go_at_call 10; (with_reducible refine (equal_yes L L' n n c' (dif (upd E m (E m + x)) O) (dif (upd E m (E m + x)) O) _ hR13 hR12 h2 (fun _ _ => rfl)).mono ?_); rintro e w13 ⟨rfl, q, h9⟩; have hA13 : TopAt w13 T G n (upd E m (E m + x)) O := (by rw [h9]; exact hA12.drewN q); have hB13 : BoardAt w13 (w6.heap.size + 1 + 1) (w6.heap.size + 1) (w6.heap.size) n (upd E m (E m + x)) O := (by rw [h9]; exact hB12.drewN q); have hb13 : Below w.heap.size w w13 := (by rw [h9]; exact below_drewN ((hb10.trans (hb11.mono hb10.size)).trans (hb12.mono (Nat.le_trans hb10.size s11))) q); clear h9))
              go_roundw
              case rel => exact ⟨k + 1, (upd E m (E m + x)), O, by omega, rfl, hA13, hB13, hbdk, hb13⟩
              case measure => simp [intOf]; omega
            · have hbdk : ∀ j, j < n → 0 ≤ O j ∧ O j ≤ E j ∧ E j ≤ 100000 * ((k + 1 : Nat) : Int) := fun j hj => by have := hbd j hj; omega
              have hbd10 : ∀ j, j < n → 0 ≤ O j ∧ O j ≤ E j ∧ E j ≤ 100000000 := fun j hj => by have := hbdk j hj; omega
              go_wp2_with fail
              have hAW : TopAt (wr.alloc (.cells #[.int .i64 0, .int .i64 (m : Int), .int .i64 x] 33)) T G n E O := hA.kept (Below.heap_alloc _ _ _ tl1) (Below.heap_alloc _ _ _ tl2)
              have hBW : BoardAt (wr.alloc (.cells #[.int .i64 0, .int .i64 (m : Int), .int .i64 x] 33)) (w6.heap.size + 1 + 1) (w6.heap.size + 1) (w6.heap.size) n E O := hB.kept (Below.heap_alloc _ _ _ tl3) (Below.heap_alloc _ _ _ tl4) (Below.heap_alloc _ _ _ tl5)
              have hbW : Below w.heap.size w (wr.alloc (.cells #[.int .i64 0, .int .i64 (m : Int), .int .i64 x] 33)) := hbw.alloc hbw.size _
              have hsW : wr.heap.size < (wr.alloc (.cells #[.int .i64 0, .int .i64 (m : Int), .int .i64 x] 33)).heap.size := by simp
              have e0 : (wr.alloc (.cells #[.int .i64 0, .int .i64 (m : Int), .int .i64 x] 33)).cell? ⟨wr.heap.size, 0, none⟩ = some (.int .i64 0) := cell_at rfl rfl
              have e1 : (wr.alloc (.cells #[.int .i64 0, .int .i64 (m : Int), .int .i64 x] 33)).cell? ⟨wr.heap.size, 1, none⟩ = some (.int .i64 (m : Int)) := cell_at rfl rfl
              have e2 : (wr.alloc (.cells #[.int .i64 0, .int .i64 (m : Int), .int .i64 x] 33)).cell? ⟨wr.heap.size, 2, none⟩ = some (.int .i64 x) := cell_at rfl rfl
              clear hA hB hbw k0 k1 k2
              generalize wr.alloc (.cells #[.int .i64 0, .int .i64 (m : Int), .int .i64 x] 33) = W at *
              generalize wr.heap.size = C at *
              have c1 := fun q => make_arg T G n m x (W.drewN q) hAW.2.2.1 (by omega) (by omega) hx
              have c2 := fun q => bMake_arg (w6.heap.size + 1 + 1) (w6.heap.size + 1) (w6.heap.size) n E O m x (W.drewN q) (hBW.drewN q) h2 (by omega) (by omega) hx
              go_quiet (first | (go_at_call 6; with_reducible refine Calls.quiet_of_same (c1 _)) | (go_at_call 7; with_reducible refine Calls.quiet_of_same (c2 _)))
              have hA10 := hAW.drewN nq
              have hB10 := hBW.drewN nq
              have hb10 := below_drewN hbW nq
              have s10 : (W.drewN nq).heap.size = W.heap.size := rfl
              go_wp2_with (first
                | (go_at_call 11; (with_reducible refine (lags_any T G n E O _ hA10 h2 hbd10).mono ?_); rintro e w11 ⟨L, rfl, hL, hR11, hb11⟩; have s11 := hb11.size; have hL11 := hR11.lt; have hB11 := hB10.below hb11 (by omega) (by omega) (by omega); have hA11 := hA10.below hb11 (by omega) (by omega))
                | (go_at_call 12; (with_reducible refine (bLags (w6.heap.size + 1 + 1) (w6.heap.size + 1) (w6.heap.size) n E O _ hB11 h1 h2 hbd10).mono ?_); rintro e w12 ⟨L', c', rfl, hL', hR12, hb12⟩; have hR13 := hR11.below hb12 hL11; have hA12 := hA11.below hb12 (by omega) (by omega); have hB12 := hB11.below hb12 (by omega) (by omega) (by omega))
                | (go_at_call 10; (with_reducible refine (equal_yes L L' n n c' (dif E O) (dif E O) _ hR13 hR12 h2 (fun _ _ => rfl)).mono ?_); rintro e w13 ⟨rfl, q, h9⟩; have hA13 : TopAt w13 T G n E O := (by rw [h9]; exact hA12.drewN q); have hB13 : BoardAt w13 (w6.heap.size + 1 + 1) (w6.heap.size + 1) (w6.heap.size) n E O := (by rw [h9]; exact hB12.drewN q); have hb13 : Below w.heap.size w w13 := (by rw [h9]; exact below_drewN ((hb10.trans (hb11.mono hb10.size)).trans (hb12.mono (Nat.le_trans hb10.size s11))) q); clear h9))
              go_roundw
              case rel => exact ⟨k + 1, E, O, by omega, rfl, hA13, hB13, hbdk, hb13⟩
              case measure => simp [intOf]; omega
          · have hbdk : ∀ j, j < n → 0 ≤ O j ∧ O j ≤ E j ∧ E j ≤ 100000 * ((k + 1 : Nat) : Int) := fun j hj => by have := hbd j hj; omega
            have hbd10 : ∀ j, j < n → 0 ≤ O j ∧ O j ≤ E j ∧ E j ≤ 100000000 := fun j hj => by have := hbdk j hj; omega
            go_wp2_with fail
            have hAW : TopAt (wr.alloc (.cells #[.int .i64 0, .int .i64 p, .int .i64 x] 33)) T G n E O := hA.kept (Below.heap_alloc _ _ _ tl1) (Below.heap_alloc _ _ _ tl2)
            have hBW : BoardAt (wr.alloc (.cells #[.int .i64 0, .int .i64 p, .int .i64 x] 33)) (w6.heap.size + 1 + 1) (w6.heap.size + 1) (w6.heap.size) n E O := hB.kept (Below.heap_alloc _ _ _ tl3) (Below.heap_alloc _ _ _ tl4) (Below.heap_alloc _ _ _ tl5)
            have hbW : Below w.heap.size w (wr.alloc (.cells #[.int .i64 0, .int .i64 p, .int .i64 x] 33)) := hbw.alloc hbw.size _
            have hsW : wr.heap.size < (wr.alloc (.cells #[.int .i64 0, .int .i64 p, .int .i64 x] 33)).heap.size := by simp
            have e0 : (wr.alloc (.cells #[.int .i64 0, .int .i64 p, .int .i64 x] 33)).cell? ⟨wr.heap.size, 0, none⟩ = some (.int .i64 0) := cell_at rfl rfl
            have e1 : (wr.alloc (.cells #[.int .i64 0, .int .i64 p, .int .i64 x] 33)).cell? ⟨wr.heap.size, 1, none⟩ = some (.int .i64 p) := cell_at rfl rfl
            have e2 : (wr.alloc (.cells #[.int .i64 0, .int .i64 p, .int .i64 x] 33)).cell? ⟨wr.heap.size, 2, none⟩ = some (.int .i64 x) := cell_at rfl rfl
            clear hA hB hbw k0 k1 k2
            generalize wr.alloc (.cells #[.int .i64 0, .int .i64 p, .int .i64 x] 33) = W at *
            generalize wr.heap.size = C at *
            have c1 := fun q => make_none T G n p x (W.drewN q) hAW.2.2.1 hp
            have c2 := fun q => bMake_none (w6.heap.size + 1 + 1) (w6.heap.size + 1) (w6.heap.size) n E O p x (W.drewN q) (hBW.drewN q) h1 h2 hp
            go_quiet (first | (go_at_call 6; with_reducible refine Calls.quiet_of_same (c1 _)) | (go_at_call 7; with_reducible refine Calls.quiet_of_same (c2 _)))
            have hA10 := hAW.drewN nq
            have hB10 := hBW.drewN nq
            have hb10 := below_drewN hbW nq
            have s10 : (W.drewN nq).heap.size = W.heap.size := rfl
            go_wp2_with (first
              | (go_at_call 11; (with_reducible refine (lags_any T G n E O _ hA10 h2 hbd10).mono ?_); rintro e w11 ⟨L, rfl, hL, hR11, hb11⟩; have s11 := hb11.size; have hL11 := hR11.lt; have hB11 := hB10.below hb11 (by omega) (by omega) (by omega); have hA11 := hA10.below hb11 (by omega) (by omega))
              | (go_at_call 12; (with_reducible refine (bLags (w6.heap.size + 1 + 1) (w6.heap.size + 1) (w6.heap.size) n E O _ hB11 h1 h2 hbd10).mono ?_); rintro e w12 ⟨L', c', rfl, hL', hR12, hb12⟩; have hR13 := hR11.below hb12 hL11; have hA12 := hA11.below hb12 (by omega) (by omega); have hB12 := hB11.below hb12 (by omega) (by omega) (by omega))
              | (go_at_call 10; (with_reducible refine (equal_yes L L' n n c' (dif E O) (dif E O) _ hR13 hR12 h2 (fun _ _ => rfl)).mono ?_); rintro e w13 ⟨rfl, q, h9⟩; have hA13 : TopAt w13 T G n E O := (by rw [h9]; exact hA12.drewN q); have hB13 : BoardAt w13 (w6.heap.size + 1 + 1) (w6.heap.size + 1) (w6.heap.size) n E O := (by rw [h9]; exact hB12.drewN q); have hb13 : Below w.heap.size w w13 := (by rw [h9]; exact below_drewN ((hb10.trans (hb11.mono hb10.size)).trans (hb12.mono (Nat.le_trans hb10.size s11))) q); clear h9))
            go_roundw
            case rel => exact ⟨k + 1, E, O, by omega, rfl, hA13, hB13, hbdk, hb13⟩
            case measure => simp [intOf]; omega
        · by_cases hk1 : kd = 1
          · subst hk1
            by_cases hp : 0 ≤ p ∧ p < (n : Int)
            · obtain ⟨m, rfl⟩ := Int.eq_ofNat_of_zero_le hp.1
              have hm : m < n := by omega
              have bm := hbd m hm
              by_cases hx : O m ≤ x ∧ x ≤ E m
              · have hbdk : ∀ j, j < n → 0 ≤ upd O m x j ∧ upd O m x j ≤ E j ∧ E j ≤ 100000 * ((k + 1 : Nat) : Int) := fun j hj => by have := hbd j hj; unfold upd; split <;> (try subst j) <;> omega
                have hbd10 : ∀ j, j < n → 0 ≤ upd O m x j ∧ upd O m x j ≤ E j ∧ E j ≤ 100000000 := fun j hj => by have := hbdk j hj; omega
                go_wp2_with fail
                have hAW : TopAt (wr.alloc (.cells #[.int .i64 1, .int .i64 (m : Int), .int .i64 x] 33)) T G n E O := hA.kept (Below.heap_alloc _ _ _ tl1) (Below.heap_alloc _ _ _ tl2)
                have hBW : BoardAt (wr.alloc (.cells #[.int .i64 1, .int .i64 (m : Int), .int .i64 x] 33)) (w6.heap.size + 1 + 1) (w6.heap.size + 1) (w6.heap.size) n E O := hB.kept (Below.heap_alloc _ _ _ tl3) (Below.heap_alloc _ _ _ tl4) (Below.heap_alloc _ _ _ tl5)
                have hbW : Below w.heap.size w (wr.alloc (.cells #[.int .i64 1, .int .i64 (m : Int), .int .i64 x] 33)) := hbw.alloc hbw.size _
                have hsW : wr.heap.size < (wr.alloc (.cells #[.int .i64 1, .int .i64 (m : Int), .int .i64 x] 33)).heap.size := by simp
                have e0 : (wr.alloc (.cells #[.int .i64 1, .int .i64 (m : Int), .int .i64 x] 33)).cell? ⟨wr.heap.size, 0, none⟩ = some (.int .i64 1) := cell_at rfl rfl
                have e1 : (wr.alloc (.cells #[.int .i64 1, .int .i64 (m : Int), .int .i64 x] 33)).cell? ⟨wr.heap.size, 1, none⟩ = some (.int .i64 (m : Int)) := cell_at rfl rfl
                have e2 : (wr.alloc (.cells #[.int .i64 1, .int .i64 (m : Int), .int .i64 x] 33)).cell? ⟨wr.heap.size, 2, none⟩ = some (.int .i64 x) := cell_at rfl rfl
                clear hA hB hbw k0 k1 k2
                generalize wr.alloc (.cells #[.int .i64 1, .int .i64 (m : Int), .int .i64 x] 33) = W at *
                generalize wr.heap.size = C at *
                go_region_held (fun w' => w'.cell? ⟨C, 1, none⟩ = some (.int .i64 (m : Int)) ∧ w'.cell? ⟨C, 2, none⟩ = some (.int .i64 x)) (first | exact ⟨g1, g2⟩ | exact ⟨f1, f2⟩ | exact ⟨e1, e2⟩) (first
                  | (go_at_call 8; (with_reducible refine (topTake T G n m x E O _ hAW.drew hm hx.1 hx.2).mono ?_); rintro e w9 ⟨rfl, hA9, hO9⟩; have hB9 := hBW.drew.only hO9 (by omega) (by omega) (by omega); have f1 : w9.cell? ⟨C, 1, none⟩ = some (.int .i64 (m : Int)) := (only_cell hO9 (by omega)).trans e1; have f2 : w9.cell? ⟨C, 2, none⟩ = some (.int .i64 x) := (only_cell hO9 (by omega)).trans e2; have hb9 : Below w.heap.size w w9 := hbW.drew.trans (hO9.below hG6))
                  | (go_at_call 9; (with_reducible refine (bTake_yes (w6.heap.size + 1 + 1) (w6.heap.size + 1) (w6.heap.size) n m E O x _ hB9 h2 hm hx.1 hx.2).mono ?_); rintro e w10 ⟨rfl, hB10, hO10⟩; have hA10 := hA9.only hO10 (by omega) (by omega); have g1 : w10.cell? ⟨C, 1, none⟩ = some (.int .i64 (m : Int)) := (only_cell hO10 (by omega)).trans f1; have g2 : w10.cell? ⟨C, 2, none⟩ = some (.int .i64 x) := (only_cell hO10 (by omega)).trans f2; have hb10 : Below w.heap.size w w10 := hb9.trans (hO10.below (by omega)); have s10 := hO10.size; have s9 : w9.heap.size = W.heap.size := hO9.size))
                go_wp2_with (first
                  | (go_at_call 11; (with_reducible refine (lags_any T G n E (upd O m x) _ hA10 h2 hbd10).mono ?_); rintro e w11 ⟨L, rfl, hL, hR11, hb11⟩; have s11 := hb11.size; have hL11 := hR11.lt; have hB11 := hB10.below hb11 (by omega) (by omega) (by omega); have hA11 := hA10.below hb11 (by omega) (by omega))
                  | (go_at_call 12; (with_reducible refine (bLags (w6.heap.size + 1 + 1) (w6.heap.size + 1) (w6.heap.size) n E (upd O m x) _ hB11 h1 h2 hbd10).mono ?_); rintro e w12 ⟨L', c', rfl, hL', hR12, hb12⟩; have hR13 := hR11.below hb12 hL11; have hA12 := hA11.below hb12 (by omega) (by omega); have hB12 := hB11.below hb12 (by omega) (by omega) (by omega))
                  | (go_at_call 10; (with_reducible refine (equal_yes L L' n n c' (dif E (upd O m x)) (dif E (upd O m x)) _ hR13 hR12 h2 (fun _ _ => rfl)).mono ?_); rintro e w13 ⟨rfl, q, h9⟩; have hA13 : TopAt w13 T G n E (upd O m x) := (by rw [h9]; exact hA12.drewN q); have hB13 : BoardAt w13 (w6.heap.size + 1 + 1) (w6.heap.size + 1) (w6.heap.size) n E (upd O m x) := (by rw [h9]; exact hB12.drewN q); have hb13 : Below w.heap.size w w13 := (by rw [h9]; exact below_drewN ((hb10.trans (hb11.mono hb10.size)).trans (hb12.mono (Nat.le_trans hb10.size s11))) q); clear h9))
                go_roundw
                case rel => exact ⟨k + 1, E, (upd O m x), by omega, rfl, hA13, hB13, hbdk, hb13⟩
                case measure => simp [intOf]; omega
              · have hbdk : ∀ j, j < n → 0 ≤ O j ∧ O j ≤ E j ∧ E j ≤ 100000 * ((k + 1 : Nat) : Int) := fun j hj => by have := hbd j hj; omega
                have hbd10 : ∀ j, j < n → 0 ≤ O j ∧ O j ≤ E j ∧ E j ≤ 100000000 := fun j hj => by have := hbdk j hj; omega
                go_wp2_with fail
                have hAW : TopAt (wr.alloc (.cells #[.int .i64 1, .int .i64 (m : Int), .int .i64 x] 33)) T G n E O := hA.kept (Below.heap_alloc _ _ _ tl1) (Below.heap_alloc _ _ _ tl2)
                have hBW : BoardAt (wr.alloc (.cells #[.int .i64 1, .int .i64 (m : Int), .int .i64 x] 33)) (w6.heap.size + 1 + 1) (w6.heap.size + 1) (w6.heap.size) n E O := hB.kept (Below.heap_alloc _ _ _ tl3) (Below.heap_alloc _ _ _ tl4) (Below.heap_alloc _ _ _ tl5)
                have hbW : Below w.heap.size w (wr.alloc (.cells #[.int .i64 1, .int .i64 (m : Int), .int .i64 x] 33)) := hbw.alloc hbw.size _
                have hsW : wr.heap.size < (wr.alloc (.cells #[.int .i64 1, .int .i64 (m : Int), .int .i64 x] 33)).heap.size := by simp
                have e0 : (wr.alloc (.cells #[.int .i64 1, .int .i64 (m : Int), .int .i64 x] 33)).cell? ⟨wr.heap.size, 0, none⟩ = some (.int .i64 1) := cell_at rfl rfl
                have e1 : (wr.alloc (.cells #[.int .i64 1, .int .i64 (m : Int), .int .i64 x] 33)).cell? ⟨wr.heap.size, 1, none⟩ = some (.int .i64 (m : Int)) := cell_at rfl rfl
                have e2 : (wr.alloc (.cells #[.int .i64 1, .int .i64 (m : Int), .int .i64 x] 33)).cell? ⟨wr.heap.size, 2, none⟩ = some (.int .i64 x) := cell_at rfl rfl
                clear hA hB hbw k0 k1 k2
                generalize wr.alloc (.cells #[.int .i64 1, .int .i64 (m : Int), .int .i64 x] 33) = W at *
                generalize wr.heap.size = C at *
                have c1 := fun q => topTake_no T G n m x E O (W.drewN q) (hAW.drewN q) hm hx
                have c2 := fun q => bTake_no (w6.heap.size + 1 + 1) (w6.heap.size + 1) (w6.heap.size) n m E O x (W.drewN q) (hBW.drewN q) h2 hm hx
                go_quiet (first | (go_at_call 8; with_reducible refine Calls.quiet_of_same (c1 _)) | (go_at_call 9; with_reducible refine Calls.quiet_of (c2 _)))
                have hA10 := hAW.drewN nq
                have hB10 := hBW.drewN nq
                have hb10 := below_drewN hbW nq
                have s10 : (W.drewN nq).heap.size = W.heap.size := rfl
                go_wp2_with (first
                  | (go_at_call 11; (with_reducible refine (lags_any T G n E O _ hA10 h2 hbd10).mono ?_); rintro e w11 ⟨L, rfl, hL, hR11, hb11⟩; have s11 := hb11.size; have hL11 := hR11.lt; have hB11 := hB10.below hb11 (by omega) (by omega) (by omega); have hA11 := hA10.below hb11 (by omega) (by omega))
                  | (go_at_call 12; (with_reducible refine (bLags (w6.heap.size + 1 + 1) (w6.heap.size + 1) (w6.heap.size) n E O _ hB11 h1 h2 hbd10).mono ?_); rintro e w12 ⟨L', c', rfl, hL', hR12, hb12⟩; have hR13 := hR11.below hb12 hL11; have hA12 := hA11.below hb12 (by omega) (by omega); have hB12 := hB11.below hb12 (by omega) (by omega) (by omega))
                  | (go_at_call 10; (with_reducible refine (equal_yes L L' n n c' (dif E O) (dif E O) _ hR13 hR12 h2 (fun _ _ => rfl)).mono ?_); rintro e w13 ⟨rfl, q, h9⟩; have hA13 : TopAt w13 T G n E O := (by rw [h9]; exact hA12.drewN q); have hB13 : BoardAt w13 (w6.heap.size + 1 + 1) (w6.heap.size + 1) (w6.heap.size) n E O := (by rw [h9]; exact hB12.drewN q); have hb13 : Below w.heap.size w w13 := (by rw [h9]; exact below_drewN ((hb10.trans (hb11.mono hb10.size)).trans (hb12.mono (Nat.le_trans hb10.size s11))) q); clear h9))
                go_roundw
                case rel => exact ⟨k + 1, E, O, by omega, rfl, hA13, hB13, hbdk, hb13⟩
                case measure => simp [intOf]; omega
            · have hbdk : ∀ j, j < n → 0 ≤ O j ∧ O j ≤ E j ∧ E j ≤ 100000 * ((k + 1 : Nat) : Int) := fun j hj => by have := hbd j hj; omega
              have hbd10 : ∀ j, j < n → 0 ≤ O j ∧ O j ≤ E j ∧ E j ≤ 100000000 := fun j hj => by have := hbdk j hj; omega
              go_wp2_with fail
              have hAW : TopAt (wr.alloc (.cells #[.int .i64 1, .int .i64 p, .int .i64 x] 33)) T G n E O := hA.kept (Below.heap_alloc _ _ _ tl1) (Below.heap_alloc _ _ _ tl2)
              have hBW : BoardAt (wr.alloc (.cells #[.int .i64 1, .int .i64 p, .int .i64 x] 33)) (w6.heap.size + 1 + 1) (w6.heap.size + 1) (w6.heap.size) n E O := hB.kept (Below.heap_alloc _ _ _ tl3) (Below.heap_alloc _ _ _ tl4) (Below.heap_alloc _ _ _ tl5)
              have hbW : Below w.heap.size w (wr.alloc (.cells #[.int .i64 1, .int .i64 p, .int .i64 x] 33)) := hbw.alloc hbw.size _
              have hsW : wr.heap.size < (wr.alloc (.cells #[.int .i64 1, .int .i64 p, .int .i64 x] 33)).heap.size := by simp
              have e0 : (wr.alloc (.cells #[.int .i64 1, .int .i64 p, .int .i64 x] 33)).cell? ⟨wr.heap.size, 0, none⟩ = some (.int .i64 1) := cell_at rfl rfl
              have e1 : (wr.alloc (.cells #[.int .i64 1, .int .i64 p, .int .i64 x] 33)).cell? ⟨wr.heap.size, 1, none⟩ = some (.int .i64 p) := cell_at rfl rfl
              have e2 : (wr.alloc (.cells #[.int .i64 1, .int .i64 p, .int .i64 x] 33)).cell? ⟨wr.heap.size, 2, none⟩ = some (.int .i64 x) := cell_at rfl rfl
              clear hA hB hbw k0 k1 k2
              generalize wr.alloc (.cells #[.int .i64 1, .int .i64 p, .int .i64 x] 33) = W at *
              generalize wr.heap.size = C at *
              have c1 := fun q => take_none T G n p x (W.drewN q) hAW.2.2.1 hp
              have c2 := fun q => bTake_none (w6.heap.size + 1 + 1) (w6.heap.size + 1) (w6.heap.size) n E O p x (W.drewN q) (hBW.drewN q) h1 h2 hp
              go_quiet (first | (go_at_call 8; with_reducible refine Calls.quiet_of_same (c1 _)) | (go_at_call 9; with_reducible refine Calls.quiet_of_same (c2 _)))
              have hA10 := hAW.drewN nq
              have hB10 := hBW.drewN nq
              have hb10 := below_drewN hbW nq
              have s10 : (W.drewN nq).heap.size = W.heap.size := rfl
              go_wp2_with (first
                | (go_at_call 11; (with_reducible refine (lags_any T G n E O _ hA10 h2 hbd10).mono ?_); rintro e w11 ⟨L, rfl, hL, hR11, hb11⟩; have s11 := hb11.size; have hL11 := hR11.lt; have hB11 := hB10.below hb11 (by omega) (by omega) (by omega); have hA11 := hA10.below hb11 (by omega) (by omega))
                | (go_at_call 12; (with_reducible refine (bLags (w6.heap.size + 1 + 1) (w6.heap.size + 1) (w6.heap.size) n E O _ hB11 h1 h2 hbd10).mono ?_); rintro e w12 ⟨L', c', rfl, hL', hR12, hb12⟩; have hR13 := hR11.below hb12 hL11; have hA12 := hA11.below hb12 (by omega) (by omega); have hB12 := hB11.below hb12 (by omega) (by omega) (by omega))
                | (go_at_call 10; (with_reducible refine (equal_yes L L' n n c' (dif E O) (dif E O) _ hR13 hR12 h2 (fun _ _ => rfl)).mono ?_); rintro e w13 ⟨rfl, q, h9⟩; have hA13 : TopAt w13 T G n E O := (by rw [h9]; exact hA12.drewN q); have hB13 : BoardAt w13 (w6.heap.size + 1 + 1) (w6.heap.size + 1) (w6.heap.size) n E O := (by rw [h9]; exact hB12.drewN q); have hb13 : Below w.heap.size w w13 := (by rw [h9]; exact below_drewN ((hb10.trans (hb11.mono hb10.size)).trans (hb12.mono (Nat.le_trans hb10.size s11))) q); clear h9))
              go_roundw
              case rel => exact ⟨k + 1, E, O, by omega, rfl, hA13, hB13, hbdk, hb13⟩
              case measure => simp [intOf]; omega
          · have hbdk : ∀ j, j < n → 0 ≤ O j ∧ O j ≤ E j ∧ E j ≤ 100000 * ((k + 1 : Nat) : Int) := fun j hj => by have := hbd j hj; omega
            have hbd10 : ∀ j, j < n → 0 ≤ O j ∧ O j ≤ E j ∧ E j ≤ 100000000 := fun j hj => by have := hbdk j hj; omega
            go_wp2_with fail
            have hAW : TopAt (wr.alloc (.cells #[.int .i64 kd, .int .i64 p, .int .i64 x] 33)) T G n E O := hA.kept (Below.heap_alloc _ _ _ tl1) (Below.heap_alloc _ _ _ tl2)
            have hBW : BoardAt (wr.alloc (.cells #[.int .i64 kd, .int .i64 p, .int .i64 x] 33)) (w6.heap.size + 1 + 1) (w6.heap.size + 1) (w6.heap.size) n E O := hB.kept (Below.heap_alloc _ _ _ tl3) (Below.heap_alloc _ _ _ tl4) (Below.heap_alloc _ _ _ tl5)
            have hbW : Below w.heap.size w (wr.alloc (.cells #[.int .i64 kd, .int .i64 p, .int .i64 x] 33)) := hbw.alloc hbw.size _
            have hsW : wr.heap.size < (wr.alloc (.cells #[.int .i64 kd, .int .i64 p, .int .i64 x] 33)).heap.size := by simp
            have e0 : (wr.alloc (.cells #[.int .i64 kd, .int .i64 p, .int .i64 x] 33)).cell? ⟨wr.heap.size, 0, none⟩ = some (.int .i64 kd) := cell_at rfl rfl
            have e1 : (wr.alloc (.cells #[.int .i64 kd, .int .i64 p, .int .i64 x] 33)).cell? ⟨wr.heap.size, 1, none⟩ = some (.int .i64 p) := cell_at rfl rfl
            have e2 : (wr.alloc (.cells #[.int .i64 kd, .int .i64 p, .int .i64 x] 33)).cell? ⟨wr.heap.size, 2, none⟩ = some (.int .i64 x) := cell_at rfl rfl
            clear hA hB hbw k0 k1 k2
            generalize wr.alloc (.cells #[.int .i64 kd, .int .i64 p, .int .i64 x] 33) = W at *
            generalize wr.heap.size = C at *
            have hA10 := hAW
            have hB10 := hBW
            have hb10 := hbW
            go_wp2_with (first
              | (go_at_call 11; (with_reducible refine (lags_any T G n E O _ hA10 h2 hbd10).mono ?_); rintro e w11 ⟨L, rfl, hL, hR11, hb11⟩; have s11 := hb11.size; have hL11 := hR11.lt; have hB11 := hB10.below hb11 (by omega) (by omega) (by omega); have hA11 := hA10.below hb11 (by omega) (by omega))
              | (go_at_call 12; (with_reducible refine (bLags (w6.heap.size + 1 + 1) (w6.heap.size + 1) (w6.heap.size) n E O _ hB11 h1 h2 hbd10).mono ?_); rintro e w12 ⟨L', c', rfl, hL', hR12, hb12⟩; have hR13 := hR11.below hb12 hL11; have hA12 := hA11.below hb12 (by omega) (by omega); have hB12 := hB11.below hb12 (by omega) (by omega) (by omega))
              | (go_at_call 10; (with_reducible refine (equal_yes L L' n n c' (dif E O) (dif E O) _ hR13 hR12 h2 (fun _ _ => rfl)).mono ?_); rintro e w13 ⟨rfl, q, h9⟩; have hA13 : TopAt w13 T G n E O := (by rw [h9]; exact hA12.drewN q); have hB13 : BoardAt w13 (w6.heap.size + 1 + 1) (w6.heap.size + 1) (w6.heap.size) n E O := (by rw [h9]; exact hB12.drewN q); have hb13 : Below w.heap.size w w13 := (by rw [h9]; exact below_drewN ((hb10.trans (hb11.mono hb10.size)).trans (hb12.mono (Nat.le_trans hb10.size s11))) q); clear h9))
            go_roundw
            case rel => exact ⟨k + 1, E, O, by omega, rfl, hA13, hB13, hbdk, hb13⟩
            case measure => simp [intOf]; omega
      · have hbd10 : ∀ j, j < n → 0 ≤ O j ∧ O j ≤ E j ∧ E j ≤ 100000000 := fun j hj => by have := hbd j hj; omega
        have hA10 := hA
        have hB10 := hB
        have hb10 := hbw
        have tl1 := hA.2.1
        have tl2 := hA.2.2.2.lt
        have tl3 := hB.2.2.2.1
        have tl4 := hB.2.2.2.2.2.2.1.lt
        have tl5 := hB.2.2.2.2.2.2.2.lt
        clear hA hB hbw
        go_wp2_with (first
          | (go_at_call 11; (with_reducible refine (lags_any T G n E O _ hA10 h2 hbd10).mono ?_); rintro e w11 ⟨L, rfl, hL, hR11, hb11⟩; have s11 := hb11.size; have hL11 := hR11.lt; have hB11 := hB10.below hb11 (by omega) (by omega) (by omega); have hA11 := hA10.below hb11 (by omega) (by omega))
          | (go_at_call 12; (with_reducible refine (bLags (w6.heap.size + 1 + 1) (w6.heap.size + 1) (w6.heap.size) n E O _ hB11 h1 h2 hbd10).mono ?_); rintro e w12 ⟨L', c', rfl, hL', hR12, hb12⟩; have hR13 := hR11.below hb12 hL11; have hA12 := hA11.below hb12 (by omega) (by omega); have hB12 := hB11.below hb12 (by omega) (by omega) (by omega))
          | (go_at_call 10; (with_reducible refine (equal_yes L L' n n c' (dif E O) (dif E O) _ hR13 hR12 h2 (fun _ _ => rfl)).mono ?_); rintro e w13 ⟨rfl, q, h9⟩; have hA13 : TopAt w13 T G n E O := (by rw [h9]; exact hA12.drewN q); have hB13 : BoardAt w13 (w6.heap.size + 1 + 1) (w6.heap.size + 1) (w6.heap.size) n E O := (by rw [h9]; exact hB12.drewN q); have hb13 : Below w.heap.size w w13 := (by rw [h9]; exact below_drewN ((hb10.trans (hb11.mono hb10.size)).trans (hb12.mono (Nat.le_trans hb10.size s11))) q); clear h9))
        go_ret
        exact ⟨rfl, hb13⟩
end Top
end Go.Proofs.Ytmogbileofpcfab
