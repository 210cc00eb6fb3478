
/- The law NeedGrows, walked to its end. -/
import Derived.Test.YtcaobnmfgnbolafDoorNeedGrow
import Derived.Deep.RegionWith
namespace Go.Proofs.YtcaobnmfgnbolafDoor
namespace Ned
open Go.RowKit Plain Num Pln Civ Crn Lai
set_option maxRecDepth 8000

/-- what Of tells of the trigger, at whatever lags -/
def OfIs (t : Tr) (len : Nat) (P : (Nat → Int) → Int) (A : (Nat → Int) → Bool) (E : Int) : Prop :=
  ∀ w' a c Y, IntsAt w' a len Y → Calls Tryd.prog 10 #[trV t, rdV false a len c, .int .i64 0, .int .i64 0] w' fun e w'' => e = .returned (.tuple #[needV (P Y) (A Y), .int .i64 E]) ∧ Below w'.heap.size w' w''
/-- one way alone -/
def Ends (A : Act) (W : World) (x : Exit) (a' : Act) (w' : World) : Prop :=
  match x with
  | .normal => a' = A ∧ w' = W
  | _ => False
theorem mono_ex {P : Program} {c : Code} {Q : Exit → Act → World → Prop} {a : Act} {w : World} (h : ∃ A W, c.wp P (Ends A W) a w ∧ Q .normal A W) : c.wp P Q a w := by
  obtain ⟨A, W, h1, h2⟩ := h
  refine Code.wp_mono (fun x a' w' hE => ?_) h1
  cases x with
  | normal => obtain ⟨rfl, rfl⟩ := hE; exact h2
  | _ => exact False.elim hE
set_option maxHeartbeats 8000000 in
theorem grow_go (k tg ac : Int) (ka kb : K) (a : Option Addr) (len cap : Nat) (X : Nat → Int) (i more : Int) (w : World) (hk : k ≠ 3) (h0 : 0 < len) (hsz : len * 8 ≤ 140737488355328) (hX : IntsAt w a len X)
    (P : (Nat → Int) → Int) (A : (Nat → Int) → Bool) (E : Int) (c : OfIs ⟨k, tg, ac, ka, kb⟩ len P A E)
    (hE : (E = 1 ∧ ∀ Y, P Y = 0 ∧ A Y = false) ∨ (E = 0 ∧ ∀ Y : Nat → Int, (∀ j, X j ≤ Y j) → P X ≤ P Y ∧ (A X = true → A Y = true) ∧ 0 ≤ P X)) :
    Calls Tryd.prog 4 #[trV ⟨k, tg, ac, ka, kb⟩, .slice a len cap, .int .i64 i, .int .i64 more] w fun e w' => e = .returned (.bool true) ∧ Below w.heap.size w w' := by
  have c1 := fun a w hX => of_seven a w hX
  have hI := fun o ta => two_int w o 7 ta (by decide) (by decide)
  unfold OfIs at c
  have c2 := fun w' hX => c w' a cap X hX
  have c3 := fun w => rest_any i len w (by omega) (by omega)
  have c4 := fun w hX => clone_any a len cap X w h0 hsz hX
  have c5 := fun w => rest_any more 1000 w (by omega) (by omega)
  have d3 : (k == 3) = false := by rw [beq_eq_false_iff_ne]; exact hk
  have d0 : ((len : Int) == 0) = false := by rw [beq_eq_false_iff_ne]; omega
  obtain ⟨m, hm, hmod⟩ : ∃ m : Nat, m < len ∧ i % (len : Int) = (m : Int) := ⟨(i % (len : Int)).toNat, by have := Int.emod_lt_of_pos i (show (0 : Int) < len by omega); have := Int.emod_nonneg i (show (len : Int) ≠ 0 by omega); omega, by have := Int.emod_nonneg i (show (len : Int) ≠ 0 by omega); omega⟩
  rw [hmod] at c3
  obtain ⟨q, hq, hr⟩ : ∃ q : Int, (0 ≤ q ∧ q < 1000) ∧ more % 1000 = q := ⟨more % 1000, by omega, rfl⟩
  rw [hr] at c5
  have hlen : (len : Int) ≤ 17592186044416 := by omega
  have hm' : (m : Int) < len := by omega
  obtain ⟨p0, hp0⟩ : ∃ p, Hid (P X = p) := ⟨_, rfl⟩
  obtain ⟨a0, ha0⟩ : ∃ b, Hid (A X = b) := ⟨_, rfl⟩
  rw [hp0.out, ha0.out] at c2
  have HE : Hid _ := hE
  clear hk hmod hr hE
  go_enter Tryd.func4, Tryd.ntmps4
  go_wp2_with (first
    | (go_at_call 10; (with_reducible refine (c1 _ _ (hI _ _)).mono ?_); rintro e w1 ⟨rfl, hb1⟩; obtain ⟨hT1, hw1, hz1⟩ := first_box (t := ⟨_, tg, ac, ka, kb⟩) hb1; have hT1a := fun o => hT1.below (balloc (w := w1) o) hz1; have k0 := fun o => (hT1a o).c0; have hw1a := fun o => hw1.alloc hw1.size o; have hX1 := fun o => hX.below (hw1a o) (Nat.le_refl _); dsimp only at k0)
    | (with_reducible refine wp_tr (hT1a _) (by with_unfolding_all rfl) ?_)
    | (go_at_call 10; (with_reducible refine (c2 _ (hX1 _)).mono ?_); rintro e w2 ⟨rfl, hb2⟩; have hw2 := bstep (hw1a _) hb2; have hT2 := (hT1a _).below hb2 (by simp; omega); have hz2 : w.heap.size < w2.heap.size := (by have := hb2.size; simp at this; omega); have hT2a := fun o => hT2.below (balloc (w := w2) o) hz2; have hw2a := fun o => hw2.alloc hw2.size o; have hX2 := fun o => hX.below (hw2a o) (Nat.le_refl _))
    | (go_at_call 11; (with_reducible refine (c3 _).mono ?_); rintro e w3 ⟨rfl, h9⟩; have h8 := h9.symm; clear h9; subst h8)
    | (go_at_call 12; (with_reducible refine (c4 _ (hX2 _)).mono ?_); rintro e w3 ⟨B, C, rfl, hB, hBl, hcel, hfz, hb3⟩))
  have hT3 := (hT2a _).below hb3 (by simp; omega)
  have hw3 := bstep (hw2a _) hb3
  have x0 : w3.cell? ⟨w2.heap.size, 0, none⟩ = some (.int .i64 p0) := by rw [hb3.cell (p := ⟨w2.heap.size, 0, none⟩) (by simp)]; exact cellA rfl
  have x1 : w3.cell? ⟨w2.heap.size, 1, none⟩ = some (.bool a0) := by rw [hb3.cell (p := ⟨w2.heap.size, 1, none⟩) (by simp)]; exact cellA rfl
  have hB2 : w2.heap.size + 1 ≤ B := by simpa using hB
  have cm := hcel m hm
  have fm := hfz m
  have c6 := fun x w => add_any x q w
  have em : max (X m) 0 = atz (X m) := max_atz _
  have HH : Hid (TrAt w3 w.heap.size 0 ⟨k, tg, ac, ka, kb⟩ ∧ Below w.heap.size w w3 ∧ w3.cell? ⟨w2.heap.size, 0, none⟩ = some (.int .i64 p0) ∧ w3.cell? ⟨w2.heap.size, 1, none⟩ = some (.bool a0) ∧ w2.heap.size + 1 ≤ B ∧ B < w3.heap.size ∧ w.heap.size < w2.heap.size ∧ (∀ i, i < len → w3.cell? ⟨B, i, none⟩ = some (.int .i64 (X i))) ∧ OfIs ⟨k, tg, ac, ka, kb⟩ len P A E ∧ IntsAt w a len X ∧ 0 ≤ q ∧ q < 1000) := ⟨hT3, hw3, x0, x1, hB2, hBl, hz2, hcel, c, hX, hq⟩
  clear c c1 c2 c3 c4 hI hX hX1 hX2 hT1 hT1a hT2 hT2a hw1 hw1a hw2 hw2a hb1 hb2 hb3 hcel k0 hz1 hz2 d3 d0 hB hBl hsz hq hT3 hw3 x0 x1 hB2
  refine mono_ex ?_
  apply Exists.intro
  apply Exists.intro
  refine ⟨?reg, ?tail⟩
  case reg =>
    go_region_with (first
      | (go_at_call 11; (with_reducible refine (c5 _).mono ?_); rintro e w4 ⟨rfl, h9⟩; have h8 := h9.symm; clear h9; subst h8)
      | (go_at_call 13; (with_reducible refine (c6 _ _).mono ?_); rintro e w4 ⟨rfl, h9⟩; have h8 := h9.symm; clear h9; subst h8))
    all_goals exact ⟨rfl, rfl⟩
  case tail =>
    obtain ⟨hT3, hw3, x0, x1, hB2, hBl, hz2, hcel, c, hX, hq1, hq2⟩ := HH.out
    clear HH c5 c6 fm hfz cm
    obtain ⟨_, _, _, _, _, bX⟩ := hX m hm
    have hcb := clip_bd (clip (atz (X m)) + clip q)
    generalize hv : max (X m) (clip (clip (atz (X m)) + clip q)) = v
    have hv1 : X m ≤ v := by omega
    have hv2 : v ≤ 9223372036854775807 := by omega
    clear hcb em hv
    obtain ⟨W4, hW⟩ : ∃ W, W = (w3.setCell ⟨B, m, none⟩ (.int .i64 v)).drew := ⟨_, rfl⟩
    rw [← hW]
    obtain ⟨Y, hYd⟩ : ∃ Y : Nat → Int, Y = fun j => if j = m then v else X j := ⟨_, rfl⟩
    have hb4 : Below B w3 W4 := by rw [hW]; exact ((Below.refl B w3).setCell (Nat.le_refl _) _).drew
    have hT4 := hT3.below hb4 (by omega)
    have hw4 : Below w.heap.size w W4 := hw3.trans (hb4.mono (by omega))
    have x40 : W4.cell? ⟨w2.heap.size, 0, none⟩ = some (.int .i64 p0) := by rw [hb4.cell (p := ⟨w2.heap.size, 0, none⟩) (by show w2.heap.size < B; omega)]; exact x0
    have x41 : W4.cell? ⟨w2.heap.size, 1, none⟩ = some (.bool a0) := by rw [hb4.cell (p := ⟨w2.heap.size, 1, none⟩) (by show w2.heap.size < B; omega)]; exact x1
    have hY : IntsAt W4 (some ⟨B, 0, none⟩) len Y := by
      intro j hj
      obtain ⟨_, _, _, _, _, bj⟩ := hX j hj
      refine ⟨B, 0, rfl, Nat.lt_of_lt_of_le hBl hb4.size, ?_⟩
      rw [Nat.zero_add, hW, hYd]
      dsimp only
      by_cases e : j = m
      · subst e
        rw [if_pos rfl]
        exact ⟨World.cell?_setCell_same _ _ _ (hcel j hj), by omega, by omega⟩
      · rw [if_neg e]
        exact ⟨(World.cell?_setCell_other _ _ _ _ (by intro h; simp only [Addr.mk.injEq] at h; omega)).trans (hcel j hj), bj.1, bj.2⟩
    have hXY : ∀ j, X j ≤ Y j := by
      intro j
      rw [hYd]
      dsimp only
      split
      · rename_i e; subst e; exact hv1
      · exact Int.le_refl _
    have hl4 : w2.heap.size < W4.heap.size := by have := hb4.size; omega
    have c7 := c W4 (some ⟨B, 0, none⟩) C Y hY
    clear hT3 hw3 x0 x1 hcel c hY hW hYd hv1 hv2 hb4 hX bX hB2 hBl
    obtain ⟨p1, hp1⟩ : ∃ p, Hid (P Y = p) := ⟨_, rfl⟩
    obtain ⟨a1, ha1⟩ : ∃ b, Hid (A Y = b) := ⟨_, rfl⟩
    rw [hp1.out, ha1.out] at c7
    rcases HE.out with ⟨rfl, hE⟩ | ⟨rfl, hE⟩
    · obtain rfl : p0 = 0 := by rw [← hp0.out]; exact (hE X).1
      obtain rfl : a0 = false := by rw [← ha0.out]; exact (hE X).2
      obtain rfl : p1 = 0 := by rw [← hp1.out]; exact (hE Y).1
      obtain rfl : a1 = false := by rw [← ha1.out]; exact (hE Y).2
      clear hE hXY hp0 ha0 hp1 ha1
      go_wp2_with (first
        | (with_reducible refine wp_tr hT4 (by with_unfolding_all rfl) ?_)
        | (go_at_call 10; (with_reducible refine c7.mono ?_); rintro e w5 ⟨rfl, hb5⟩; have hw5 := bstep hw4 hb5; have y0 := ((bcell hb5).1 w2.heap.size 0 hl4).trans x40; have y1 := ((bcell hb5).1 w2.heap.size 1 hl4).trans x41; have hl5 : w2.heap.size < w5.heap.size := Nat.lt_of_lt_of_le hl4 hb5.size; have z0 := fun o => (cellB (W := w5) (p := o) (o := 0) hl5).trans y0; have z1 := fun o => (cellB (W := w5) (p := o) (o := 1) hl5).trans y1))
      all_goals (go_ret; exact ⟨rfl, hw5.alloc hw5.size _⟩)
    · obtain ⟨h1, h2, h3⟩ := hE Y hXY
      rw [hp0.out] at h1 h3
      rw [hp1.out] at h1
      rw [ha0.out, ha1.out] at h2
      clear hE hXY hp0 ha0 hp1 ha1
      cases a0
      all_goals
        cases a1
        all_goals
          first
          | (exfalso; exact Bool.noConfusion (h2 rfl))
          | (clear h2
             go_wp2_with (first
               | (with_reducible refine wp_tr hT4 (by with_unfolding_all rfl) ?_)
               | (go_at_call 10; (with_reducible refine c7.mono ?_); rintro e w5 ⟨rfl, hb5⟩; have hw5 := bstep hw4 hb5; have y0 := ((bcell hb5).1 w2.heap.size 0 hl4).trans x40; have y1 := ((bcell hb5).1 w2.heap.size 1 hl4).trans x41; have hl5 : w2.heap.size < w5.heap.size := Nat.lt_of_lt_of_le hl4 hb5.size; have z0 := fun o => (cellB (W := w5) (p := o) (o := 0) hl5).trans y0; have z1 := fun o => (cellB (W := w5) (p := o) (o := 1) hl5).trans y1))
             all_goals (go_ret; exact ⟨rfl, hw5.alloc hw5.size _⟩))
end Ned
end Go.Proofs.YtcaobnmfgnbolafDoor
