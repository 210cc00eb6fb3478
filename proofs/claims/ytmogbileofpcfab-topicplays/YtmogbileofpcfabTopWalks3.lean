/- What each function of package topic answers: Lags; slices.Equal. -/
import Derived.Test.YtmogbileofpcfabTopWalks2
namespace Go.Proofs.Ytmogbileofpcfab
namespace Top
open Go.RowKit
set_option maxRecDepth 8000

def dif (E O : Nat → Int) : Nat → Int := fun i => E i - O i
def sofar (E O : Nat → Int) (k : Nat) : Nat → Int := fun i => if i < k then E i - O i else 0
theorem sofar_step (E O : Nat → Int) (k : Nat) : upd (sofar E O k) k (E k - O k) = sofar E O (k + 1) := by
  funext i
  unfold upd sofar
  by_cases h : i = k
  · subst h; simp
  · by_cases g : i < k
    · simp [h, g, show i < k + 1 by omega]
    · simp [h, g, show ¬ i < k + 1 by omega]
def LagR (E O : Nat → Int) (L n : Nat) (w : World) (i : Value) (wr : World) : Prop := ∃ k : Nat, k ≤ n ∧ i = .int .i64 k ∧ Row1 wr L n (sofar E O k) ∧ Below w.heap.size w wr

set_option maxHeartbeats 4000000 in
theorem lags_any (T G n : Nat) (E O : Nat → Int) (w : World) (hA : TopAt w T G n E O) (hn : n ≤ 20) (hbd : ∀ i, i < n → 0 ≤ O i ∧ O i ≤ E i ∧ E i ≤ 100000000) :
    Calls Try.prog 11 #[.pointer (some ⟨T, 0, none⟩)] w fun e w' => ∃ L, e = .returned (.slice (some ⟨L, 0, none⟩) n n) ∧ w.heap.size ≤ L ∧ Row1 w' L n (dif E O) ∧ Below w.heap.size w w' := by
  obtain ⟨i0, hi, hz0, hz1, hz2⟩ := info_parts info_int
  obtain ⟨hTG, hTl, hT, hR⟩ := hA
  go_enter Try.func11, Try.ntmps11
  go_wp2_with (at_make; refine wpList_make_full _ rfl _ _ 29 rfl w.heap.size 3 i0 _ 1 Try.underlying29 hi hz0 hz1 _ _ _ _ n rfl rfl rfl rfl (by rw [hz2]; omega) (by unfold maxLen; omega) (Nat.le_refl _) ?_; intro w1 hown hgrow; have hb1 : Below w.heap.size w w1 := (Below.refl _ _).grown hgrow (Nat.le_refl _) (fun _ h => by cases h); have hT1 : w1.cell? ⟨T, 0, none⟩ = some (.slice (some ⟨G, 0, none⟩) n n) := (hb1.cell hTl).trans hT)
  have hX : Hid (Row1 w1 w.heap.size n (sofar E O 0)) := Row1.of_owns hown (fun i hi => by rw [show sofar E O 0 i = 0 by simp [sofar]]; exact made1 (n * 1) i (by omega))
  clear hown hgrow
  go_loopw [17] (fun i wr => LagR E O w.heap.size n w i wr) (fun i _ => n - (intOf i).toNat)
  case atStart => exact ⟨0, by omega, rfl, hX.out, hb1⟩
  case round =>
    obtain ⟨k, hk, rfl, hX2, hbw⟩ := hrel
    by_cases hlt : k < n
    · have hlt' : (k : Int) < n := by omega
      have hR2 : Row2 wr G n E O := hR.below hbw hR.lt
      have c1 := (hR2.2.1 k hlt).1
      have c2 := (hR2.2.1 k hlt).2
      have hb3 := hbd k hlt
      have c3 := hX2.2.1 k hlt
      have f3 := hX2.2.2 k
      have hl3 := hX2.lt
      have hGl := hR2.lt
      go_wp2
      go_roundw
      case rel =>
        refine ⟨k + 1, by omega, rfl, ?_, ?_⟩
        · rw [← sofar_step]
          exact (hX2.set hlt _).alloc _
        · exact (hbw.setCell (Nat.le_refl _) _).alloc (by rw [size_setCell]; exact hbw.size) _
      case measure => simp [intOf]; omega
    · obtain rfl : k = n := by omega
      go_wp2
      go_ret
      exact ⟨w.heap.size, rfl, Nat.le_refl _, hX2.ext (fun i hi => by simp [dif, sofar, hi]), hbw⟩

def EqR (n : Nat) (w : World) (i : Value) (wr : World) : Prop := ∃ k q : Nat, k ≤ n ∧ i = .int .i64 k ∧ wr = w.drewN q

set_option maxHeartbeats 4000000 in
theorem equal_yes (A B n c d : Nat) (X Y : Nat → Int) (w : World) (hX : Row1 w A n X) (hY : Row1 w B n Y) (hn : n ≤ 20) (he : ∀ i, i < n → X i = Y i) :
    Calls Try.prog 10 #[.slice (some ⟨A, 0, none⟩) n c, .slice (some ⟨B, 0, none⟩) n d] w fun e w' => e = .returned (.bool true) ∧ ∃ q, w' = w.drewN q := by
  go_enter Try.func10, Try.ntmps10
  go_wp2
  go_loopw [13] (fun i wr => EqR n w i wr) (fun i _ => n - (intOf i).toNat)
  case atStart => exact ⟨0, 0, by omega, rfl, rfl⟩
  case round =>
    obtain ⟨k, q, hk, rfl, hq⟩ := hrel
    have HQ : Hid (wr = w.drewN q) := hq
    by_cases hlt : k < n
    · have hlt' : (k : Int) < n := by omega
      have c1 : wr.cell? ⟨A, k, none⟩ = some (.int .i64 (X k)) := by rw [hq]; exact hX.2.1 k hlt
      have c2 : wr.cell? ⟨B, k, none⟩ = some (.int .i64 (X k)) := by rw [hq, he k hlt]; exact hY.2.1 k hlt
      clear hq
      go_wp2_with fail
      go_quiet (fail)
      go_wp2
      go_roundw
      case rel => exact ⟨k + 1, q + nq, by omega, rfl, by rw [HQ.out, World.drewN_drewN]⟩
      case measure => simp [intOf]; omega
    · obtain rfl : k = n := by omega
      go_wp2
      go_ret
      exact ⟨rfl, q, rfl⟩
end Top
end Go.Proofs.Ytmogbileofpcfab
