/- What the document's answer (tideref) says: Date, Of. -/
import Derived.Test.YtbfnjjdgiihngaaDoorRefCivil
namespace Go.Proofs.YtbfnjjdgiihngaaDoor
namespace RCiv
open Cal Civ Rst Go.RowKit

theorem in_iff (n lo hi : Int) : inB n lo hi = true ↔ (lo ≤ n ∧ n ≤ hi) := by unfold inB; simp
theorem years_c (w : World) : Calls Tryd.prog 52 #[.int .i64 1970] w fun e w' => e = .returned (.int .i64 719528) ∧ Below w.heap.size w w' :=
  years_any 1970 w (by omega) (by omega)

theorem tdiv_bd (n : Int) (h1 : -1200000 ≤ n) (h2 : n ≤ 1200000) : -3300 ≤ n.tdiv 366 ∧ n.tdiv 366 ≤ 3300 := by
  by_cases c : 0 ≤ n
  · rw [Int.tdiv_eq_ediv_of_nonneg c]; omega
  · rw [tdiv_neg n 366 (by omega)]; omega

theorem yr_lt (y n : Int) (h : ys y ≤ n) (h2 : n ≤ 4000000) : y ≤ 7000 := by
  by_cases c : 7000 < y
  · have := ys_mono 7001 y (by omega)
    have z : ys 7001 = 4018033 := by decide
    omega
  · omega
theorem ret_three {k l m : IntKind} {a b c d x y : Int} (h : a = b) (g : c = d) (i : x = y) : Ending.returned (.tuple #[.int k a, .int l c, .int m x]) = .returned (.tuple #[.int k b, .int l d, .int m y]) := by rw [h, g, i]

set_option maxHeartbeats 2000000 in
theorem rdate_any (n : Int) (w : World) (h1 : -1200000 ≤ n) (h2 : n ≤ 1200000) :
    Calls Tryd.prog 34 #[.int .i64 n] w fun e w' => e = .returned (.tuple #[.int .i64 (yr (n + 2180498)), .int .i64 (mo (n + 2180498)), .int .i64 (dy (n + 2180498))]) ∧ Below w.heap.size w w' := by
  have hq := tdiv_bd n h1 h2
  go_enter Tryd.func34, Tryd.ntmps34
  go_wp2
  go_loopw [2] (fun t wr => ∃ y : Int, -4000 ≤ y ∧ y ≤ 6000 ∧ t = .int .i64 y ∧ Below w.heap.size w wr) (fun t _ => (intOf t + 4000).toNat)
  case atStart => exact ⟨_, by omega, by omega, rfl, Below.refl _ _⟩
  case round =>
    obtain ⟨y, hy1, hy2, rfl, hbw⟩ := hrel
    have b1 := ys_bd y hy1 (by omega)
    clear hq
    by_cases hgt : n + 2180498 < ys y
    · have hy3 : -4000 < y := by
        by_cases e : y = -4000
        · subst e; have := ys_first; omega
        · omega
      have g : n < ys y - 1460970 - 719528 := by omega
      go_wp2_with (first | (go_at_call 52; with_reducible refine (years_c _).mono ?_; rintro e w2 ⟨rfl, hb2⟩) | (go_at_call 52; refine (years_any _ _ (by omega) (by omega)).mono ?_; rintro e w1 ⟨rfl, hb1⟩))
      go_roundw
      case rel => exact ⟨y - 1, by omega, by omega, rfl, bstep (bstep hbw hb1) hb2⟩
      case measure => simp [intOf]; omega
    · have g : ys y - 1460970 - 719528 ≤ n := by omega
      go_wp2_with (first | (go_at_call 52; with_reducible refine (years_c _).mono ?_; rintro e w2 ⟨rfl, hb2⟩) | (go_at_call 52; refine (years_any _ _ (by omega) (by omega)).mono ?_; rintro e w1 ⟨rfl, hb1⟩))
      go_loopw [2] (fun t wr => ∃ y : Int, -4000 ≤ y ∧ y ≤ 7000 ∧ t = .int .i64 y ∧ ys y ≤ n + 2180498 ∧ Below w.heap.size w wr) (fun t _ => (9000 - intOf t).toNat)
      case atStart => exact ⟨y, hy1, by omega, rfl, by omega, bstep (bstep hbw hb1) hb2⟩
      case round =>
        clear hgt g hb1 hb2 hbw b1
        obtain ⟨z, hz1, hz2, rfl, hz3, hbz⟩ := hrel
        have c1 := ys_bd z hz1 (by omega)
        have c2 := ys_bd (z + 1) (by omega) (by omega)
        by_cases hle : ys (z + 1) ≤ n + 2180498
        · have hz4 := yr_lt (z + 1) _ hle (by omega)
          have g : ys (z + 1) - 1460970 - 719528 ≤ n := by omega
          go_wp2_with (first | (go_at_call 52; with_reducible refine (years_c _).mono ?_; rintro e w4 ⟨rfl, hb4⟩) | (go_at_call 52; refine (years_any _ _ (by omega) (by omega)).mono ?_; rintro e w3 ⟨rfl, hb3⟩))
          go_roundw
          case rel => exact ⟨z + 1, by omega, by omega, rfl, hle, bstep (bstep hbz hb3) hb4⟩
          case measure => simp [intOf]; omega
        · have g : n < ys (z + 1) - 1460970 - 719528 := by omega
          have HN : Hid (ys (z + 1) = ys z + 365 + lp z) := ys_succ _
          go_wp2_with (first | (go_at_call 52; with_reducible refine (years_c _).mono ?_; rintro e w6 ⟨rfl, hb6⟩; replace hbz := bstep hbz hb6; clear hb6) | (go_at_call 52; refine (years_any _ _ (by omega) (by omega)).mono ?_; rintro e w5 ⟨rfl, hb5⟩; replace hbz := bstep hbz hb5; clear hb5))
          go_loop [0, 3] (fun r k => ∃ j : Int, 1 ≤ j ∧ j ≤ 12 ∧ k = .int .i64 j ∧ cum z j ≤ n + 2180498 - ys z ∧ r = .int .i64 (n + 2180498 - ys z - cum z j)) (fun _ k => (12 - intOf k).toNat)
          case atStart => exact ⟨1, by omega, by omega, rfl, by rw [cum_one]; omega, by rw [cum_one]; congr 1; omega⟩
          case round =>
            obtain ⟨j, hj1, hj2, rfl, hc, rfl⟩ := hrel
            have cb := cum_bd z j
            have db := dim_bd z j
            have HC : Hid (cum z (j + 1) = cum z j + dim z j) := cum_succ _ j hj1 hj2
            have hl := lp_01 z
            by_cases hlt : dim z j ≤ n + 2180498 - ys z - cum z j
            · have hj3 : j < 12 := by
                by_cases e : j = 12
                · subst e
                  have c13 := cum_last z
                  have q := HC.out
                  have q2 := HN.out
                  rw [show (12 : Int) + 1 = 13 by decide] at q
                  omega
                · omega
              go_wp2_with (first | (go_at_call 53; refine (long_any _ _ _).mono ?_; rintro e w' ⟨rfl, rfl⟩))
              go_round
              case rel => exact ⟨j + 1, by omega, by omega, rfl, by rw [HC.out]; omega, by rw [HC.out]; go_num⟩
              case measure => simp [intOf]; omega
            · obtain ⟨e1, e2, e3⟩ := date_is (n := n + 2180498) (y := z) (m := j) (d := n + 2180498 - ys z - cum z j + 1) ⟨hj1, hj2, by omega, by omega⟩ (by omega)
              have E : Hid (_ ∧ _ ∧ _) := ⟨e1, e2, e3⟩
              clear e1 e2 e3
              go_wp2_with (first | (go_at_call 53; refine (long_any _ _ _).mono ?_; rintro e w' ⟨rfl, rfl⟩))
              go_ret3
              exact ⟨ret_three E.out.1.symm E.out.2.1.symm E.out.2.2.symm, hbz⟩

theorem tm_in (n : Int) : tmB n = inB n (-100000000000) 100000000000 := rfl
theorem sh_in (n : Int) : shB n = inB n (-900) 900 := rfl

theorem rof_no (sec shift : Int) (w : World) (h : tmB sec = false ∨ shB shift = false) :
    Calls Tryd.prog 14 #[.int .i64 sec, .int .i64 shift] w fun e w' => e = .returned (.tuple #[civ 0 0 0 0 0 0 0, .int .i64 1]) ∧ Below w.heap.size w w' := by
  rw [tm_in, sh_in] at h
  cases ht : inB sec (-100000000000) 100000000000
  · clear h
    go_enter Tryd.func14, Tryd.ntmps14
    go_wp2_with (first | (go_at_call 19; refine (in_any _ _ _ _).mono ?_; rintro e w' ⟨rfl, rfl⟩))
    refine bodyPost_ret (v := .tuple #[civ 0 0 0 0 0 0 0, .int .i64 1]) (by simp [results, Tryd.results14, go_sem]) rfl ⟨rfl, ?_⟩
    exact (Below.refl _ _).alloc (Nat.le_refl _) _
  · have hs : inB shift (-900) 900 = false := by rcases h with h | h; (rw [ht] at h; exact Bool.noConfusion h); exact h
    clear h
    go_enter Tryd.func14, Tryd.ntmps14
    go_wp2_with (first | (go_at_call 19; refine (in_any _ _ _ _).mono ?_; rintro e w' ⟨rfl, rfl⟩))
    refine bodyPost_ret (v := .tuple #[civ 0 0 0 0 0 0 0, .int .i64 1]) (by simp [results, Tryd.results14, go_sem]) rfl ⟨rfl, ?_⟩
    exact (Below.refl _ _).alloc (Nat.le_refl _) _

/-- seven cells written one behind another read so -/
theorem set7 {W : World} {B : Nat} {x0 x1 x2 x3 x4 x5 x6 : Value} (v0 v1 v2 v3 v4 v5 v6 : Value) (h0 : W.cell? ⟨B, 0, none⟩ = some x0) (h1 : W.cell? ⟨B, 1, none⟩ = some x1) (h2 : W.cell? ⟨B, 2, none⟩ = some x2) (h3 : W.cell? ⟨B, 3, none⟩ = some x3) (h4 : W.cell? ⟨B, 4, none⟩ = some x4) (h5 : W.cell? ⟨B, 5, none⟩ = some x5) (h6 : W.cell? ⟨B, 6, none⟩ = some x6) :
    let W' := ((((((W.setCell ⟨B, 0, none⟩ v0).setCell ⟨B, 1, none⟩ v1).setCell ⟨B, 2, none⟩ v2).setCell ⟨B, 3, none⟩ v3).setCell ⟨B, 4, none⟩ v4).setCell ⟨B, 5, none⟩ v5).setCell ⟨B, 6, none⟩ v6
    W'.cell? ⟨B, 0, none⟩ = some v0 ∧ W'.cell? ⟨B, 1, none⟩ = some v1 ∧ W'.cell? ⟨B, 2, none⟩ = some v2 ∧ W'.cell? ⟨B, 3, none⟩ = some v3 ∧ W'.cell? ⟨B, 4, none⟩ = some v4 ∧ W'.cell? ⟨B, 5, none⟩ = some v5 ∧ W'.cell? ⟨B, 6, none⟩ = some v6 := by
  simp [go_sem, h0, h1, h2, h3, h4, h5, h6]
theorem fin7 {a : Act} {w Wf : World} {B : Nat} {y m d h i s k y' m' d' h' i' s' k' : Int} (hp : a.tmps[4]? = some (.pointer (some ⟨B, 0, none⟩))) (he : a.tmps[5]? = some (.int .i64 0)) (ha : a.defers = [])
    (hc : Wf.cell? ⟨B, 0, none⟩ = some (.int .i64 y) ∧ Wf.cell? ⟨B, 1, none⟩ = some (.int .i64 m) ∧ Wf.cell? ⟨B, 2, none⟩ = some (.int .i64 d) ∧ Wf.cell? ⟨B, 3, none⟩ = some (.int .i64 h) ∧ Wf.cell? ⟨B, 4, none⟩ = some (.int .i64 i) ∧ Wf.cell? ⟨B, 5, none⟩ = some (.int .i64 s) ∧ Wf.cell? ⟨B, 6, none⟩ = some (.int .i64 k))
    (hv : civ y m d h i s k = civ y' m' d' h' i' s' k') (hb : Below w.heap.size w Wf) :
    bodyPost Tryd.prog Tryd.f14 (fun e w' => e = .returned (.tuple #[civ y' m' d' h' i' s' k', .int .i64 0]) ∧ Below w.heap.size w w') Exit.ret a Wf := by
  obtain ⟨c0, c1, c2, c3, c4, c5, c6⟩ := hc
  refine bodyPost_ret (v := .tuple #[civ y m d h i s k, .int .i64 0]) ?_ ha ⟨by rw [hv], hb⟩
  simp [results, Tryd.results14, go_sem, hp, he, c0, c1, c2, c3, c4, c5, c6]

set_option maxHeartbeats 2000000 in
theorem rof_yes (sec shift : Int) (w : World) (ht : tmB sec = true) (hs : shB shift = true) :
    Calls Tryd.prog 14 #[.int .i64 sec, .int .i64 shift] w fun e w' => e = .returned (.tuple #[ofv (sc sec shift), .int .i64 0]) ∧ Below w.heap.size w w' := by
  have h1 := (tm_iff _).1 ht
  have h2 := (sh_iff _).1 hs
  rw [tm_in] at ht
  rw [sh_in] at hs
  have hq : (sec + shift * 60 - (sec + shift * 60) % 86400).tdiv 86400 = (sec + shift * 60) / 86400 := by
    have e : sec + shift * 60 - (sec + shift * 60) % 86400 = 86400 * ((sec + shift * 60) / 86400) := by omega
    rw [e, Int.mul_tdiv_cancel_left _ (by decide)]
  go_enter Tryd.func14, Tryd.ntmps14
  go_wp2_with (first | (go_at_call 19; refine (in_any _ _ _ _).mono ?_; rintro e w' ⟨rfl, rfl⟩) | (go_at_call 33; refine (rest_any _ _ _ (by omega) (by omega)).mono ?_; rintro e w' ⟨rfl, rfl⟩) | (go_at_call 34; refine (rdate_any _ _ (by omega) (by omega)).mono ?_; rintro e w1 ⟨rfl, hb⟩; obtain ⟨hc, hf⟩ := bcell hb; have hz : w.heap.size < w1.heap.size := (by have := hb.size; simp at this; omega)))
  have k : ∀ o, o < 7 → w1.cell? ⟨w.heap.size, o, none⟩ = some (.int .i64 0) := by
    intro o ho
    rw [hc _ _ (by simp; omega)]
    have : o = 0 ∨ o = 1 ∨ o = 2 ∨ o = 3 ∨ o = 4 ∨ o = 5 ∨ o = 6 := by omega
    rcases this with rfl | rfl | rfl | rfl | rfl | rfl | rfl <;> simp [go_sem]
  refine fin7 (B := w.heap.size) rfl rfl rfl (set7 (x0 := .int .i64 0) (x1 := .int .i64 0) (x2 := .int .i64 0) (x3 := .int .i64 0) (x4 := .int .i64 0) (x5 := .int .i64 0) (x6 := .int .i64 0) _ _ _ _ _ _ _ ?_ ?_ ?_ ?_ ?_ ?_ ?_) ?_ ?_
  all_goals try (simp [go_sem, k]; done)
  · have e0 : sc sec shift / 86400 = (sec + shift * 60) / 86400 + 2180498 := by unfold sc; omega
    have e1 : sc sec shift % 86400 / 3600 = (sec + shift * 60) % 86400 / 3600 := by unfold sc; omega
    have e2 : sc sec shift % 3600 / 60 = (sec + shift * 60) % 3600 / 60 := by unfold sc; omega
    have e3 : sc sec shift % 60 = sec % 60 := by unfold sc; omega
    have e4 : ((sec + shift * 60) / 86400 + 4) % 7 = ((sec + shift * 60) / 86400 + 2180498 + 6) % 7 := by omega
    rw [e0, e1, e2, e3, e4]
  · iterate 14 (refine Below.setCell ?_ (by simp) _)
    exact bstep (bstepA (bstepA (Below.refl _ _) _) _) hb

end RCiv
end Go.Proofs.YtbfnjjdgiihngaaDoor
