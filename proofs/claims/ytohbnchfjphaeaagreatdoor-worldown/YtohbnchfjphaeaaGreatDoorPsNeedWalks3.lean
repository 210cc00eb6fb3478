/- What the functions of package need answer: what a reading needs. What need.Of and need.Want answer. What need.Want answers. What need.Want answers of a reading that did not fail. -/
import Derived.Test.YtohbnchfjphaeaaGreatDoorPsNeedTr
import Derived.Laws.ResultCell
namespace Go.Proofs.YtohbnchfjphaeaaGreatDoor
namespace Ned
open Go.RowKit Plain Num Pln Civ Crn Lai
set_option maxRecDepth 8000

abbrev needV (p : Int) (b : Bool) : Value := .agg #[.int .i64 p, .bool b]
theorem TrAt.three (w : World) (t : Tr) (ta : TypeId) (o p : Obj) : TrAt (((w.alloc (.cells (trC t) ta)).alloc o).alloc p) w.heap.size 0 t := (TrAt.new w t ta).below (balloc2 o p) (by simp)
theorem balloc3 {w : World} (o p q : Obj) : Below w.heap.size w (((w.alloc o).alloc p).alloc q) := (balloc2 o p).alloc (by simp; omega) q
structure BoxAt (w w1 : World) (t : Tr) (f : Bool) (sl : Value) : Prop where
 tr : TrAt w1 w.heap.size 0 t
 r0 : w1.cell? ⟨w.heap.size + 1, 0, none⟩ = some (.bool f)
 r1 : w1.cell? ⟨w.heap.size + 1, 1, none⟩ = some sl
 n0 : w1.cell? ⟨w.heap.size + 1 + 1, 0, none⟩ = some (.int .i64 0)
 n1 : w1.cell? ⟨w.heap.size + 1 + 1, 1, none⟩ = some (.bool false)
 fz : ∀ o, w1.frozen? ⟨w.heap.size + 1 + 1, o, none⟩ = false
 sz : w.heap.size + 3 ≤ w1.heap.size
 bw : Below w.heap.size w w1
theorem cellA {W : World} {A : Array Value} {ta : TypeId} {n o : Nat} (hn : n = W.heap.size) : (W.alloc (.cells A ta)).cell? ⟨n, o, none⟩ = A[o]? := by subst hn; simp
theorem cellB {W : World} {p : Obj} {n o : Nat} (hn : n < W.heap.size) : (W.alloc p).cell? ⟨n, o, none⟩ = W.cell? ⟨n, o, none⟩ := (balloc p).cell hn
theorem frozA {W : World} {A : Array Value} {ta : TypeId} {n o : Nat} (hn : n = W.heap.size) : (W.alloc (.cells A ta)).frozen? ⟨n, o, none⟩ = false := by subst hn; simp
theorem BoxAt.mk3 (w : World) (t : Tr) (f : Bool) (sl : Value) (ta tb tc : TypeId) : BoxAt w (((w.alloc (.cells (trC t) ta)).alloc (.cells #[.bool f, sl] tb)).alloc (.cells #[.int .i64 0, .bool false] tc)) t f sl :=
 ⟨TrAt.three w t ta _ _, by rw [cellB (by simp), cellA (by simp)]; rfl, by rw [cellB (by simp), cellA (by simp)]; rfl, by rw [cellA (by simp)]; rfl, by rw [cellA (by simp)]; rfl, fun o => frozA (by simp), by simp, balloc3 _ _ _⟩
theorem BoxAt.next {w w1 w2 : World} {t : Tr} {f : Bool} {sl : Value} (h : BoxAt w w1 t f sl) (hb : Below w1.heap.size w1 w2) : BoxAt w w2 t f sl := by
 have hz := h.sz
 refine ⟨h.tr.below hb (by omega), ?_, ?_, ?_, ?_, fun o => ?_, by have := hb.size; omega, h.bw.trans (hb.mono (by omega))⟩
 ·rw [hb.cell (by show w.heap.size + 1 < _; omega)]; exact h.r0
 ·rw [hb.cell (by show w.heap.size + 1 < _; omega)]; exact h.r1
 ·rw [hb.cell (by show w.heap.size + 1 + 1 < _; omega)]; exact h.n0
 ·rw [hb.cell (by show w.heap.size + 1 + 1 < _; omega)]; exact h.n1
 ·rw [hb.frozen (by show w.heap.size + 1 + 1 < _; omega)]; exact h.fz o
theorem range_need {w : World} {B : Nat} {pd : Int} {b : Bool} (c0 : w.cell? ⟨B, 0, none⟩ = some (.int .i64 pd)) (c1 : w.cell? ⟨B, 1, none⟩ = some (.bool b)) : w.rangeAt B 0 [.int .i64 pd, .bool b] := by
 intro j v hv
 match j, hv with
 | 0, hv => simp at hv; subst hv; simpa using c0
 | 1, hv => simp at hv; subst hv; simpa using c1
 | j + 2, hv => simp at hv
theorem finN {fn : Func} {p u : Tmp} {Q : Ending → World → Prop} (hres : fn.results = #[.cell p 163, .tmp u]) {a : Act} {Wf : World} {B : Nat} {pd E : Int} {b : Bool} (hp : a.tmps[p]? = some (.pointer (some ⟨B, 0, none⟩))) (he : a.tmps[u]? = some (.int .i64 E)) (ha : a.defers = [])
  (c0 : Wf.cell? ⟨B, 0, none⟩ = some (.int .i64 pd)) (c1 : Wf.cell? ⟨B, 1, none⟩ = some (.bool b)) (hQ : Q (.returned (.tuple #[needV pd b, .int .i64 E])) Wf) : bodyPost Tryz.prog fn Q Exit.ret a Wf := by
 refine bodyPost_ret (v := .tuple #[needV pd b, .int .i64 E]) ?_ ha hQ
 have e4 : a.tmps.getD p undef = .pointer (some ⟨B, 0, none⟩) := by rw [Array.getD_eq_getD_getElem?, hp]; rfl
 have e5 : a.tmps.getD u undef = .int .i64 E := by rw [Array.getD_eq_getD_getElem?, he]; rfl
 rw [results_cell_tmp hres, e4, e5]
 have hl := run_loadVar_mid (P := Tryz.prog) Wf B 0 163 _ _ (range_need c0 c1) Tryz.underlying163 rfl (by kernel_rfl)
 simp only [asAddr, Sem.run_pure, Result.andThen_ok, hl]
theorem set2 {W : World} {B : Nat} {x0 x1 : Value} (v0 v1 : Value) (c0 : W.cell? ⟨B, 0, none⟩ = some x0) (c1 : W.cell? ⟨B, 1, none⟩ = some x1) :
  ((W.setCell ⟨B, 0, none⟩ v0).setCell ⟨B, 1, none⟩ v1).cell? ⟨B, 0, none⟩ = some v0 ∧ ((W.setCell ⟨B, 0, none⟩ v0).setCell ⟨B, 1, none⟩ v1).cell? ⟨B, 1, none⟩ = some v1 := by
 simp [go_sem, c0, c1]
theorem finL {fn : Func} {p u : Tmp} (hres : fn.results = #[.cell p 163, .tmp u]) {a : Act} {w w1 : World} {B : Nat} {pd q E : Int} {b : Bool} {x0 x1 : Value} (hp : a.tmps[p]? = some (.pointer (some ⟨B, 0, none⟩))) (he : a.tmps[u]? = some (.int .i64 E)) (ha : a.defers = [])
  (c0 : w1.cell? ⟨B, 0, none⟩ = some x0) (c1 : w1.cell? ⟨B, 1, none⟩ = some x1) (hq : pd = q) (hB : w.heap.size ≤ B) (hb : Below w.heap.size w w1) :
  bodyPost Tryz.prog fn (fun e w' => e = .returned (.tuple #[needV pd b, .int .i64 E]) ∧ Below w.heap.size w w') Exit.ret a ((w1.setCell ⟨B, 0, none⟩ (.int .i64 q)).setCell ⟨B, 1, none⟩ (.bool b)) := by
 subst hq
 obtain ⟨s0, s1⟩ := set2 (.int .i64 pd) (.bool b) c0 c1
 exact finN hres hp he ha s0 s1 ⟨rfl, (hb.setCell hB _).setCell hB _⟩
set_option maxHeartbeats 4000000 in
theorem ofr_lag (tg ac : Int) (ka kb : K) (a : Option Addr) (len cap : Nat) (X : Nat → Int) (w : World) (h : 1 ≤ tg) (hm : len ≤ maxLen) (hX : IntsAt w a len X) :
  Calls Tryz.prog 145 #[trV ⟨1, tg, ac, ka, kb⟩, rdV false a len cap] w fun e w' => e = .returned (.tuple #[needV (podF 1 tg len X) (decide (ac < metF 1 len X)), .int .i64 0]) ∧ Below w.heap.size w w' := by
 have hX3 := fun o p q => hX.below (balloc3 o p q) (Nat.le_refl _)
 have cm := fun w hX => metric_any ⟨1, tg, ac, ka, kb⟩ false a len cap X w hm hX
 have cc := fun m w => ceil_yes m tg w h
 have cn := fun w hX => cnt_any a len cap X w hm hX
 have hA := fun ta o p => TrAt.three w ⟨1, tg, ac, ka, kb⟩ ta o p
 have HP : Hid (podF 1 tg len X = min (up (clip (metF 1 len X)) (clip tg)) (cntF X len : Int)) := by unfold Hid podF; rw [if_pos rfl]
 dsimp only at cm
 generalize metF 1 len X = m at *
 generalize podF 1 tg len X = pd at *
 clear hX
 go_enter Tryz.func145, Tryz.ntmps145
 go_wp2_with (first
  | (with_reducible refine wp_tr (hA _ _ _) (by with_unfolding_all rfl) ?_)
  | (go_at_call 148; (with_reducible refine (cm _ (hX3 _ _ _)).mono ?_); rintro e w1 ⟨rfl, hb1⟩; have hK := (BoxAt.mk3 w ⟨1, tg, ac, ka, kb⟩ false (.slice a len cap) _ _ _).next hb1; have k0 := hK.tr.c0; have k1 := hK.tr.c1; have k2 := hK.tr.c2; have r1 := hK.r1; have n0 := hK.n0; have n1 := hK.n1; have fz := hK.fz; have hX1 := (hX3 _ _ _).below hb1 (Nat.le_refl _); dsimp only at k0 k1 k2)
  | (go_at_call 140; (with_reducible refine (cc _ _).mono ?_); rintro e w2 ⟨rfl, h9⟩; have h8 := h9.symm; clear h9; subst h8)
  | (go_at_call 151; (with_reducible refine (cn _ hX1).mono ?_); rintro e w2 ⟨rfl, h9⟩; have h8 := h9.symm; clear h9; subst h8))
 exact finL (B := w.heap.size + 1 + 1) Tryz.results145 rfl rfl rfl n0 n1 HP.out (Nat.le_trans (Nat.le_succ _) (Nat.le_succ _)) hK.bw
set_option maxHeartbeats 4000000 in
theorem ofr_else (k tg ac : Int) (ka kb : K) (a : Option Addr) (len cap : Nat) (X : Nat → Int) (w : World) (hk : k ≠ 1) (h : 1 ≤ tg) (hm : len ≤ maxLen) (hX : IntsAt w a len X) :
  Calls Tryz.prog 145 #[trV ⟨k, tg, ac, ka, kb⟩, rdV false a len cap] w fun e w' => e = .returned (.tuple #[needV (podF k tg len X) (decide (ac < metF k len X)), .int .i64 0]) ∧ Below w.heap.size w w' := by
 have hX3 := fun o p q => hX.below (balloc3 o p q) (Nat.le_refl _)
 have cm := fun w hX => metric_any ⟨k, tg, ac, ka, kb⟩ false a len cap X w hm hX
 have cc := fun m w => ceil_yes m tg w h
 have hA := fun ta o p => TrAt.three w ⟨k, tg, ac, ka, kb⟩ ta o p
 have HP : Hid (podF k tg len X = up (clip (metF k len X)) (clip tg)) := by unfold Hid podF; rw [if_neg hk]
 have d1 : (k == 1) = false := by rw [beq_eq_false_iff_ne]; exact hk
 dsimp only at cm
 generalize metF k len X = m at *
 generalize podF k tg len X = pd at *
 clear hX hk
 go_enter Tryz.func145, Tryz.ntmps145
 go_wp2_with (first
  | (with_reducible refine wp_tr (hA _ _ _) (by with_unfolding_all rfl) ?_)
  | (go_at_call 148; (with_reducible refine (cm _ (hX3 _ _ _)).mono ?_); rintro e w1 ⟨rfl, hb1⟩; have hK := (BoxAt.mk3 w ⟨k, tg, ac, ka, kb⟩ false (.slice a len cap) _ _ _).next hb1; have k0 := hK.tr.c0; have k1 := hK.tr.c1; have k2 := hK.tr.c2; have r1 := hK.r1; have n0 := hK.n0; have n1 := hK.n1; have fz := hK.fz; dsimp only at k0 k1 k2)
  | (go_at_call 140; (with_reducible refine (cc _ _).mono ?_); rintro e w2 ⟨rfl, h9⟩; have h8 := h9.symm; clear h9; subst h8))
 exact finL (B := w.heap.size + 1 + 1) Tryz.results145 rfl rfl rfl n0 n1 HP.out (Nat.le_trans (Nat.le_succ _) (Nat.le_succ _)) hK.bw
end Ned
namespace Ned
open Go.RowKit Plain Num Pln Civ Crn Lai
set_option maxRecDepth 8000

theorem ofr_yes (t : Tr) (a : Option Addr) (len cap : Nat) (X : Nat → Int) (w : World) (h : 1 ≤ t.tg) (hm : len ≤ maxLen) (hX : IntsAt w a len X) :
  Calls Tryz.prog 145 #[trV t, rdV false a len cap] w fun e w' => e = .returned (.tuple #[needV (podF t.k t.tg len X) (decide (t.ac < metF t.k len X)), .int .i64 0]) ∧ Below w.heap.size w w' := by
 obtain ⟨k, tg, ac, ka, kb⟩ := t
 by_cases hk : k = 1
 ·subst hk
  exact ofr_lag tg ac ka kb a len cap X w h hm hX
 ·exact ofr_else k tg ac ka kb a len cap X w hk h hm hX
theorem of_pass (t : Tr) (f : Bool) (a : Option Addr) (len cap : Nat) (sec shift : Int) (p E : Int) (b : Bool) (w : World) (hk : t.k = 1 ∨ t.k = 2)
  (c : ∀ w', Below w.heap.size w w' → Calls Tryz.prog 145 #[trV t, rdV f a len cap] w' fun e w'' => e = .returned (.tuple #[needV p b, .int .i64 E]) ∧ Below w'.heap.size w' w'') :
  Calls Tryz.prog 132 #[trV t, rdV f a len cap, .int .i64 sec, .int .i64 shift] w fun e w' => e = .returned (.tuple #[needV p b, .int .i64 E]) ∧ Below w.heap.size w w' := by
 have cc := fun w => counts_any t w
 have hd : decide (t.k = 1 ∨ t.k = 2) = true := by simp [hk]
 rw [hd] at cc
 have hA := fun ta o p => TrAt.three w t ta o p
 clear hd hk
 go_enter Tryz.func132, Tryz.ntmps132
 go_wp2_with (first
  | (with_reducible refine wp_tr (hA _ _ _) (by with_unfolding_all rfl) ?_)
  | (go_at_call 144; (with_reducible refine (cc _).mono ?_); rintro e w1 ⟨rfl, hb1⟩; have hK := (BoxAt.mk3 w t f (.slice a len cap) _ _ _).next hb1; have hA1 := hK.tr; have r0 := hK.r0; have r1 := hK.r1; have n0 := hK.n0; have n1 := hK.n1; have fz := hK.fz)
  | (with_reducible refine wp_tr hA1 (by with_unfolding_all rfl) ?_)
  | (go_at_call 145; (with_reducible refine (c _ hK.bw).mono ?_); rintro e w2 ⟨rfl, hb2⟩; have hK2 := hK.next hb2; have n20 := hK2.n0; have n21 := hK2.n1; have fz2 := hK2.fz))
 exact finL (B := w.heap.size + 1 + 1) Tryz.results132 rfl rfl rfl n20 n21 rfl (Nat.le_trans (Nat.le_succ _) (Nat.le_succ _)) hK2.bw
set_option maxHeartbeats 2000000 in
theorem of_span (tg ac : Int) (ka kb : K) (f : Bool) (a : Option Addr) (len cap : Nat) (sec shift E : Int) (r : Bool) (w : World) (h : 1 ≤ tg)
  (c : ∀ w', Below w.heap.size w w' → Calls Tryz.prog 146 #[spanV ka kb, .int .i64 sec, .int .i64 shift] w' fun e w'' => e = .returned (.tuple #[.bool r, .int .i64 E]) ∧ Below w'.heap.size w' w'') :
  Calls Tryz.prog 132 #[trV ⟨3, tg, ac, ka, kb⟩, rdV f a len cap, .int .i64 sec, .int .i64 shift] w fun e w' => e = .returned (.tuple #[needV (if r = true then tg else 0) r, .int .i64 (if r = true then 0 else E)]) ∧ Below w.heap.size w w' := by
 have cc := fun w => counts_any ⟨3, tg, ac, ka, kb⟩ w
 have hd : decide ((3 : Int) = 1 ∨ (3 : Int) = 2) = false := by decide
 dsimp only at cc
 rw [hd] at cc
 have hA := fun ta o p => TrAt.three w ⟨3, tg, ac, ka, kb⟩ ta o p
 clear hd
 cases r
 ·rw [if_neg (by decide), if_neg (by decide)]
  go_enter Tryz.func132, Tryz.ntmps132
  go_wp2_with (first
   | (with_reducible refine wp_tr (hA _ _ _) (by with_unfolding_all rfl) ?_)
   | (go_at_call 144; (with_reducible refine (cc _).mono ?_); rintro e w1 ⟨rfl, hb1⟩; have hK := (BoxAt.mk3 w ⟨3, tg, ac, ka, kb⟩ f (.slice a len cap) _ _ _).next hb1; have hA1 := hK.tr; have k0 := hK.tr.c0; have k1 := hK.tr.c1; have n0 := hK.n0; have n1 := hK.n1; have fz := hK.fz; dsimp only at k0 k1)
   | (with_reducible refine wp_span hA1 (by with_unfolding_all rfl) ?_)
   | (go_at_call 146; (with_reducible refine (c _ hK.bw).mono ?_); rintro e w2 ⟨rfl, hb2⟩; have hK2 := hK.next hb2; have n20 := hK2.n0; have n21 := hK2.n1; have fz2 := hK2.fz; have k20 := hK2.tr.c0; have k21 := hK2.tr.c1; dsimp only at k20 k21))
  first
   | exact finL (B := w.heap.size + 1 + 1) Tryz.results132 rfl rfl rfl n20 n21 rfl (Nat.le_trans (Nat.le_succ _) (Nat.le_succ _)) hK2.bw
   | exact finN (B := w.heap.size + 1 + 1) Tryz.results132 rfl rfl rfl n20 n21 ⟨rfl, hK2.bw⟩
 ·rw [if_pos rfl, if_pos rfl]
  go_enter Tryz.func132, Tryz.ntmps132
  go_wp2_with (first
   | (with_reducible refine wp_tr (hA _ _ _) (by with_unfolding_all rfl) ?_)
   | (go_at_call 144; (with_reducible refine (cc _).mono ?_); rintro e w1 ⟨rfl, hb1⟩; have hK := (BoxAt.mk3 w ⟨3, tg, ac, ka, kb⟩ f (.slice a len cap) _ _ _).next hb1; have hA1 := hK.tr; have k0 := hK.tr.c0; have k1 := hK.tr.c1; have n0 := hK.n0; have n1 := hK.n1; have fz := hK.fz; dsimp only at k0 k1)
   | (with_reducible refine wp_span hA1 (by with_unfolding_all rfl) ?_)
   | (go_at_call 146; (with_reducible refine (c _ hK.bw).mono ?_); rintro e w2 ⟨rfl, hb2⟩; have hK2 := hK.next hb2; have n20 := hK2.n0; have n21 := hK2.n1; have fz2 := hK2.fz; have k20 := hK2.tr.c0; have k21 := hK2.tr.c1; dsimp only at k20 k21))
  exact finL (B := w.heap.size + 1 + 1) Tryz.results132 rfl rfl rfl n20 n21 rfl (Nat.le_trans (Nat.le_succ _) (Nat.le_succ _)) hK2.bw
end Ned
namespace Ned
open Go.RowKit Plain Num Pln Civ Crn Lai
set_option maxRecDepth 8000

structure Box2 (w w1 : World) (t : Tr) (f : Bool) (sl : Value) : Prop where
 tr : TrAt w1 w.heap.size 0 t
 r0 : w1.cell? ⟨w.heap.size + 1, 0, none⟩ = some (.bool f)
 r1 : w1.cell? ⟨w.heap.size + 1, 1, none⟩ = some sl
 sz : w.heap.size + 2 ≤ w1.heap.size
 bw : Below w.heap.size w w1
theorem TrAt.two (w : World) (t : Tr) (ta : TypeId) (o : Obj) : TrAt ((w.alloc (.cells (trC t) ta)).alloc o) w.heap.size 0 t := (TrAt.new w t ta).below (balloc o) (by simp)
theorem Box2.mk2 (w : World) (t : Tr) (f : Bool) (sl : Value) (ta tb : TypeId) : Box2 w ((w.alloc (.cells (trC t) ta)).alloc (.cells #[.bool f, sl] tb)) t f sl :=
 ⟨TrAt.two w t ta _, by rw [cellA (by simp)]; rfl, by rw [cellA (by simp)]; rfl, by simp, balloc2 _ _⟩
theorem Box2.next {w w1 w2 : World} {t : Tr} {f : Bool} {sl : Value} (h : Box2 w w1 t f sl) (hb : Below w1.heap.size w1 w2) : Box2 w w2 t f sl := by
 have hz := h.sz
 refine ⟨h.tr.below hb (by omega), ?_, ?_, by have := hb.size; omega, h.bw.trans (hb.mono (by omega))⟩
 ·rw [hb.cell (by show w.heap.size + 1 < _; omega)]; exact h.r0
 ·rw [hb.cell (by show w.heap.size + 1 < _; omega)]; exact h.r1
end Ned
namespace Ned
open Go.RowKit Plain Num Pln Civ Crn Lai
set_option maxRecDepth 8000

theorem mul_bd {now tg : Int} (h1 : 0 ≤ now) (h3 : 1 ≤ tg) : 0 ≤ mulc (clip now) (clip tg) ∧ mulc (clip now) (clip tg) ≤ 1000000000000000 := by
 refine ⟨?_, (clip_bd _).2⟩
 unfold mulc
 exact clip_ge (Int.mul_nonneg (clip_ge h1) (by have := clip_pos h3; omega))
set_option maxHeartbeats 4000000 in
theorem want_none (tol : Int) (t : Tr) (a : Option Addr) (len cap : Nat) (X : Nat → Int) (w : World) (hk : t.k = 1 ∨ t.k = 2) (h3 : 0 ≤ tol) (h4 : tol ≤ 1000) (ht : 1 ≤ t.tg) (hm : len ≤ maxLen) (hX : IntsAt w a len X) :
  Calls Tryz.prog 133 #[.int .i64 0, .int .i64 tol, trV t, rdV false a len cap] w fun e w' => e = .returned (.tuple #[.int .i64 (podF t.k t.tg len X), .int .i64 0]) ∧ Below w.heap.size w w' := by
 have cc := fun w => counts_any t w
 have hd : decide (t.k = 1 ∨ t.k = 2) = true := by simp [hk]
 rw [hd] at cc
 have hA := fun ta o => TrAt.two w t ta o
 have co := fun w' (hb : Below w.heap.size w w') => ofr_yes t a len cap X w' ht hm (hX.below hb (Nat.le_refl _))
 generalize decide (t.ac < metF t.k len X) = ac at co
 generalize podF t.k t.tg len X = pd at co ⊢
 clear hd hk hX ht hm
 go_enter Tryz.func133, Tryz.ntmps133
 go_wp2_with (first
  | (with_reducible refine wp_tr (hA _ _) (by with_unfolding_all rfl) ?_)
  | (go_at_call 144; (with_reducible refine (cc _).mono ?_); rintro e w1 ⟨rfl, hb1⟩; have hK := (Box2.mk2 w t false (.slice a len cap) _ _).next hb1; have hA1 := hK.tr; have r0 := hK.r0; have r1 := hK.r1)
  | (with_reducible refine wp_tr hA1 (by with_unfolding_all rfl) ?_)
  | (go_at_call 145; (with_reducible refine (co _ hK.bw).mono ?_); rintro e w2 ⟨rfl, hb2⟩; have hw2 := hK.bw.trans (hb2.mono (Nat.le_trans (Nat.le_add_right _ 2) hK.sz))))
 go_region
 all_goals
  go_wp2
  go_ret2
  exact ⟨rfl, (hw2.alloc hw2.size _).drew⟩
end Ned
end Go.Proofs.YtohbnchfjphaeaaGreatDoor
