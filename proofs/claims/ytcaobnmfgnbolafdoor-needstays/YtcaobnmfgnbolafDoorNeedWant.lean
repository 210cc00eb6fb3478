
/- What need.Want answers. -/
import Derived.Test.YtcaobnmfgnbolafDoorNeedOf
namespace Go.Proofs.YtcaobnmfgnbolafDoor
namespace Ned
open Go.RowKit Plain Num Pln Civ Crn Lai
set_option maxRecDepth 8000

/-- what is behind a call: the trigger, the reading -/
structure Box2 (w w1 : World) (t : Tr) (f : Bool) (sl : Value) : Prop where
  tr : TrAt w1 w.heap.size 0 t
  r0 : w1.cell? ⟨w.heap.size + 1, 0, none⟩ = some (.bool f)
  r1 : w1.cell? ⟨w.heap.size + 1, 1, none⟩ = some sl
  sz : w.heap.size + 2 ≤ w1.heap.size
  bw : Below w.heap.size w w1
theorem TrAt.two (w : World) (t : Tr) (ta : TypeId) (o : Obj) : TrAt ((w.alloc (.cells (trC t) ta)).alloc o) w.heap.size 0 t := (TrAt.new w t ta).below (balloc o) (by simp)
theorem Box2.mk2 (w : World) (t : Tr) (f : Bool) (sl : Value) (ta tb : TypeId) : Box2 w ((w.alloc (.cells (trC t) ta)).alloc (.cells #[.bool f, sl] tb)) t f sl :=
  ⟨TrAt.two w t ta _, by rw [cellA (by simp)]; rfl, by rw [cellA (by simp)]; rfl, by simp, balloc2 _ _⟩
theorem Box2.next {w w1 w2 : World} {t : Tr} {f : Bool} {sl : Value} (h : Box2 w w1 t f sl) (hb : Below w1.heap.size w1 w2) : Box2 w w2 t f sl := by
  have hz := h.sz
  refine ⟨h.tr.below hb (by omega), ?_, ?_, by have := hb.size; omega, h.bw.trans (hb.mono (by omega))⟩
  · rw [hb.cell (by show w.heap.size + 1 < _; omega)]; exact h.r0
  · rw [hb.cell (by show w.heap.size + 1 < _; omega)]; exact h.r1
set_option maxHeartbeats 2000000 in
theorem want_kind (now tol : Int) (t : Tr) (f : Bool) (a : Option Addr) (len cap : Nat) (w : World) (h1 : t.k ≠ 1) (h2 : t.k ≠ 2) :
    Calls Tryd.prog 14 #[.int .i64 now, .int .i64 tol, trV t, rdV f a len cap] w fun e w' => e = .returned (.tuple #[.int .i64 0, .int .i64 1]) ∧ Below w.heap.size w w' := by
  have cc := fun w => counts_any t w
  have hd : decide (t.k = 1 ∨ t.k = 2) = false := by simp [h1, h2]
  rw [hd] at cc
  have hA := fun ta o => TrAt.two w t ta o
  clear hd h1 h2
  go_enter Tryd.func14, Tryd.ntmps14
  go_wp2_with (first
    | (with_reducible refine wp_tr (hA _ _) (by with_unfolding_all rfl) ?_)
    | (go_at_call 26; (with_reducible refine (cc _).mono ?_); rintro e w1 ⟨rfl, hb1⟩; have hw1 := ballocs hb1))
  go_ret2
  exact ⟨rfl, hw1⟩
set_option maxHeartbeats 4000000 in
theorem want_out (now tol : Int) (t : Tr) (f : Bool) (a : Option Addr) (len cap : Nat) (w : World) (hk : t.k = 1 ∨ t.k = 2) (h : now < 0 ∨ 50 < now ∨ tol < 0 ∨ 1000 < tol) :
    Calls Tryd.prog 14 #[.int .i64 now, .int .i64 tol, trV t, rdV f a len cap] w fun e w' => e = .returned (.tuple #[.int .i64 0, .int .i64 1]) ∧ Below w.heap.size w w' := by
  have cc := fun w => counts_any t w
  have hd : decide (t.k = 1 ∨ t.k = 2) = true := by simp [hk]
  rw [hd] at cc
  have hA := fun ta o => TrAt.two w t ta o
  clear hd hk
  rcases h with h | h | h | h
  all_goals
    go_enter Tryd.func14, Tryd.ntmps14
    go_wp2_with (first
      | (with_reducible refine wp_tr (hA _ _) (by with_unfolding_all rfl) ?_)
      | (go_at_call 26; (with_reducible refine (cc _).mono ?_); rintro e w1 ⟨rfl, hb1⟩; have hw1 := ballocs hb1))
    all_goals
      go_ret2
      exact ⟨rfl, hw1⟩
set_option maxHeartbeats 4000000 in
/-- an error of ofReading is handed on -/
theorem want_err (now tol : Int) (t : Tr) (f : Bool) (a : Option Addr) (len cap : Nat) (w : World) (E : Int) (hk : t.k = 1 ∨ t.k = 2) (h1 : 0 ≤ now) (h2 : now ≤ 50) (h3 : 0 ≤ tol) (h4 : tol ≤ 1000) (hE : E ≠ 0)
    (co : ∀ w', Below w.heap.size w w' → Calls Tryd.prog 27 #[trV t, rdV f a len cap] w' fun e w'' => e = .returned (.tuple #[needV 0 false, .int .i64 E]) ∧ Below w'.heap.size w' w'') :
    Calls Tryd.prog 14 #[.int .i64 now, .int .i64 tol, trV t, rdV f a len cap] w fun e w' => e = .returned (.tuple #[.int .i64 0, .int .i64 E]) ∧ Below w.heap.size w w' := by
  have cc := fun w => counts_any t w
  have hd : decide (t.k = 1 ∨ t.k = 2) = true := by simp [hk]
  rw [hd] at cc
  have hA := fun ta o => TrAt.two w t ta o
  have dE : (E != 0) = true := by rw [bne_iff_ne]; exact hE
  clear hd hk hE
  go_enter Tryd.func14, Tryd.ntmps14
  go_wp2_with (first
    | (with_reducible refine wp_tr (hA _ _) (by with_unfolding_all rfl) ?_)
    | (go_at_call 26; (with_reducible refine (cc _).mono ?_); rintro e w1 ⟨rfl, hb1⟩; have hK := (Box2.mk2 w t f (.slice a len cap) _ _).next hb1; have hA1 := hK.tr; have r0 := hK.r0; have r1 := hK.r1)
    | (with_reducible refine wp_tr hA1 (by with_unfolding_all rfl) ?_)
    | (go_at_call 27; (with_reducible refine (co _ hK.bw).mono ?_); rintro e w2 ⟨rfl, hb2⟩; have hw2 := hK.bw.trans (hb2.mono (Nat.le_trans (Nat.le_add_right _ 2) hK.sz)))
  )
  go_ret2
  exact ⟨rfl, hw2.alloc hw2.size _⟩
end Ned
end Go.Proofs.YtcaobnmfgnbolafDoor
