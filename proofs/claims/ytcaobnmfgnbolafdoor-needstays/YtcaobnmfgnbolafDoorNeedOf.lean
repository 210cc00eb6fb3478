
/- What need.Of and need.Want answer. -/
import Derived.Test.YtcaobnmfgnbolafDoorNeedWalks3
namespace Go.Proofs.YtcaobnmfgnbolafDoor
namespace Ned
open Go.RowKit Plain Num Pln Civ Crn Lai
set_option maxRecDepth 8000

/-- what ofReading tells, of a trigger that counts and a reading that did not fail -/
theorem ofr_yes (t : Tr) (a : Option Addr) (len cap : Nat) (X : Nat → Int) (w : World) (h : 1 ≤ t.tg) (hm : len ≤ maxLen) (hX : IntsAt w a len X) :
    Calls Tryd.prog 27 #[trV t, rdV false a len cap] w fun e w' => e = .returned (.tuple #[needV (podF t.k t.tg len X) (decide (t.ac < metF t.k len X)), .int .i64 0]) ∧ Below w.heap.size w w' := by
  obtain ⟨k, tg, ac, ka, kb⟩ := t
  by_cases hk : k = 1
  · subst hk
    exact ofr_lag tg ac ka kb a len cap X w h hm hX
  · exact ofr_else k tg ac ka kb a len cap X w hk h hm hX
/-- a trigger that counts: Of tells what ofReading tells -/
theorem of_pass (t : Tr) (f : Bool) (a : Option Addr) (len cap : Nat) (sec shift : Int) (p E : Int) (b : Bool) (w : World) (hk : t.k = 1 ∨ t.k = 2)
    (c : ∀ w', Below w.heap.size w w' → Calls Tryd.prog 27 #[trV t, rdV f a len cap] w' fun e w'' => e = .returned (.tuple #[needV p b, .int .i64 E]) ∧ Below w'.heap.size w' w'') :
    Calls Tryd.prog 10 #[trV t, rdV f a len cap, .int .i64 sec, .int .i64 shift] w fun e w' => e = .returned (.tuple #[needV p b, .int .i64 E]) ∧ Below w.heap.size w w' := by
  have cc := fun w => counts_any t w
  have hd : decide (t.k = 1 ∨ t.k = 2) = true := by simp [hk]
  rw [hd] at cc
  have hA := fun ta o p => TrAt.three w t ta o p
  clear hd hk
  go_enter Tryd.func10, Tryd.ntmps10
  go_wp2_with (first
    | (with_reducible refine wp_tr (hA _ _ _) (by with_unfolding_all rfl) ?_)
    | (go_at_call 26; (with_reducible refine (cc _).mono ?_); rintro e w1 ⟨rfl, hb1⟩; have hK := (BoxAt.mk3 w t f (.slice a len cap) _ _ _).next hb1; have hA1 := hK.tr; have r0 := hK.r0; have r1 := hK.r1; have n0 := hK.n0; have n1 := hK.n1; have fz := hK.fz)
    | (with_reducible refine wp_tr hA1 (by with_unfolding_all rfl) ?_)
    | (go_at_call 27; (with_reducible refine (c _ hK.bw).mono ?_); rintro e w2 ⟨rfl, hb2⟩; have hK2 := hK.next hb2; have n20 := hK2.n0; have n21 := hK2.n1; have fz2 := hK2.fz))
  exact finL (B := w.heap.size + 1 + 1) Tryd.results10 rfl rfl rfl n20 n21 rfl (Nat.le_trans (Nat.le_succ _) (Nat.le_succ _)) hK2.bw
set_option maxHeartbeats 2000000 in
theorem of_arg (t : Tr) (f : Bool) (a : Option Addr) (len cap : Nat) (sec shift : Int) (w : World) (h1 : t.k ≠ 1) (h2 : t.k ≠ 2) (h3 : t.k ≠ 3 ∨ t.tg < 1) :
    Calls Tryd.prog 10 #[trV t, rdV f a len cap, .int .i64 sec, .int .i64 shift] w fun e w' => e = .returned (.tuple #[needV 0 false, .int .i64 1]) ∧ Below w.heap.size w w' := by
  have cc := fun w => counts_any t w
  have hd : decide (t.k = 1 ∨ t.k = 2) = false := by simp [h1, h2]
  rw [hd] at cc
  have hA := fun ta o p => TrAt.three w t ta o p
  clear hd h1 h2
  obtain ⟨k, tg, ac, ka, kb⟩ := t
  dsimp only at h3 cc
  by_cases h : k = 3
  · subst h
    have h4 : tg < 1 := by omega
    clear h3
    go_enter Tryd.func10, Tryd.ntmps10
    go_wp2_with (first
      | (with_reducible refine wp_tr (hA _ _ _) (by with_unfolding_all rfl) ?_)
      | (go_at_call 26; (with_reducible refine (cc _).mono ?_); rintro e w1 ⟨rfl, hb1⟩; have hK := (BoxAt.mk3 w ⟨3, tg, ac, ka, kb⟩ f (.slice a len cap) _ _ _).next hb1; have k0 := hK.tr.c0; have k1 := hK.tr.c1; have n0 := hK.n0; have n1 := hK.n1; have fz := hK.fz; dsimp only at k0 k1))
    first
      | exact finL (B := w.heap.size + 1 + 1) Tryd.results10 rfl rfl rfl n0 n1 rfl (Nat.le_trans (Nat.le_succ _) (Nat.le_succ _)) hK.bw
      | exact finN (B := w.heap.size + 1 + 1) Tryd.results10 rfl rfl rfl n0 n1 ⟨rfl, hK.bw⟩
  · have d3 : (k != 3) = true := by rw [bne_iff_ne]; exact h
    clear h3 h
    go_enter Tryd.func10, Tryd.ntmps10
    go_wp2_with (first
      | (with_reducible refine wp_tr (hA _ _ _) (by with_unfolding_all rfl) ?_)
      | (go_at_call 26; (with_reducible refine (cc _).mono ?_); rintro e w1 ⟨rfl, hb1⟩; have hK := (BoxAt.mk3 w ⟨k, tg, ac, ka, kb⟩ f (.slice a len cap) _ _ _).next hb1; have k0 := hK.tr.c0; have k1 := hK.tr.c1; have n0 := hK.n0; have n1 := hK.n1; have fz := hK.fz; dsimp only at k0 k1))
    first
      | exact finL (B := w.heap.size + 1 + 1) Tryd.results10 rfl rfl rfl n0 n1 rfl (Nat.le_trans (Nat.le_succ _) (Nat.le_succ _)) hK.bw
      | exact finN (B := w.heap.size + 1 + 1) Tryd.results10 rfl rfl rfl n0 n1 ⟨rfl, hK.bw⟩
set_option maxHeartbeats 2000000 in
/-- a span: Of tells by what span.In tells -/
theorem of_span (tg ac : Int) (ka kb : K) (f : Bool) (a : Option Addr) (len cap : Nat) (sec shift E : Int) (r : Bool) (w : World) (h : 1 ≤ tg)
    (c : ∀ w', Below w.heap.size w w' → Calls Tryd.prog 28 #[spanV ka kb, .int .i64 sec, .int .i64 shift] w' fun e w'' => e = .returned (.tuple #[.bool r, .int .i64 E]) ∧ Below w'.heap.size w' w'') :
    Calls Tryd.prog 10 #[trV ⟨3, tg, ac, ka, kb⟩, rdV f a len cap, .int .i64 sec, .int .i64 shift] w fun e w' => e = .returned (.tuple #[needV (if r = true then tg else 0) r, .int .i64 (if r = true then 0 else E)]) ∧ Below w.heap.size w w' := by
  have cc := fun w => counts_any ⟨3, tg, ac, ka, kb⟩ w
  have hd : decide ((3 : Int) = 1 ∨ (3 : Int) = 2) = false := by decide
  dsimp only at cc
  rw [hd] at cc
  have hA := fun ta o p => TrAt.three w ⟨3, tg, ac, ka, kb⟩ ta o p
  clear hd
  cases r
  · rw [if_neg (by decide), if_neg (by decide)]
    go_enter Tryd.func10, Tryd.ntmps10
    go_wp2_with (first
      | (with_reducible refine wp_tr (hA _ _ _) (by with_unfolding_all rfl) ?_)
      | (go_at_call 26; (with_reducible refine (cc _).mono ?_); rintro e w1 ⟨rfl, hb1⟩; have hK := (BoxAt.mk3 w ⟨3, tg, ac, ka, kb⟩ f (.slice a len cap) _ _ _).next hb1; have hA1 := hK.tr; have k0 := hK.tr.c0; have k1 := hK.tr.c1; have n0 := hK.n0; have n1 := hK.n1; have fz := hK.fz; dsimp only at k0 k1)
      | (with_reducible refine wp_span hA1 (by with_unfolding_all rfl) ?_)
      | (go_at_call 28; (with_reducible refine (c _ hK.bw).mono ?_); rintro e w2 ⟨rfl, hb2⟩; have hK2 := hK.next hb2; have n20 := hK2.n0; have n21 := hK2.n1; have fz2 := hK2.fz; have k20 := hK2.tr.c0; have k21 := hK2.tr.c1; dsimp only at k20 k21))
    first
      | exact finL (B := w.heap.size + 1 + 1) Tryd.results10 rfl rfl rfl n20 n21 rfl (Nat.le_trans (Nat.le_succ _) (Nat.le_succ _)) hK2.bw
      | exact finN (B := w.heap.size + 1 + 1) Tryd.results10 rfl rfl rfl n20 n21 ⟨rfl, hK2.bw⟩
  · rw [if_pos rfl, if_pos rfl]
    go_enter Tryd.func10, Tryd.ntmps10
    go_wp2_with (first
      | (with_reducible refine wp_tr (hA _ _ _) (by with_unfolding_all rfl) ?_)
      | (go_at_call 26; (with_reducible refine (cc _).mono ?_); rintro e w1 ⟨rfl, hb1⟩; have hK := (BoxAt.mk3 w ⟨3, tg, ac, ka, kb⟩ f (.slice a len cap) _ _ _).next hb1; have hA1 := hK.tr; have k0 := hK.tr.c0; have k1 := hK.tr.c1; have n0 := hK.n0; have n1 := hK.n1; have fz := hK.fz; dsimp only at k0 k1)
      | (with_reducible refine wp_span hA1 (by with_unfolding_all rfl) ?_)
      | (go_at_call 28; (with_reducible refine (c _ hK.bw).mono ?_); rintro e w2 ⟨rfl, hb2⟩; have hK2 := hK.next hb2; have n20 := hK2.n0; have n21 := hK2.n1; have fz2 := hK2.fz; have k20 := hK2.tr.c0; have k21 := hK2.tr.c1; dsimp only at k20 k21))
    exact finL (B := w.heap.size + 1 + 1) Tryd.results10 rfl rfl rfl n20 n21 rfl (Nat.le_trans (Nat.le_succ _) (Nat.le_succ _)) hK2.bw
end Ned
end Go.Proofs.YtcaobnmfgnbolafDoor
