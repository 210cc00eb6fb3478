
/- What tidekeep's slow answers: yes. -/
import Derived.Test.YtanlhkokghjadafStbNew2
namespace Go.Proofs.Ytanlhkokghjadaf
namespace Stb
open Rw Go.RowKit
set_option maxRecDepth 8000

/-- Settle with an answer that is known -/
theorem set_use (B Q : Nat) (V : Nat → Value) (s : St) (now hv want : Int) (k : Nat) (w : World) (hA : SAt w B Q V s) (hF : Fit s k) (hk : k ≤ 900) {n e : Int} {s' : St} (hn : setN s now hv want = n) (he : setE s now hv want = e) (hs : setS s now hv want = s') :
    Calls Try.prog 20 #[.pointer (some ⟨Q, 0, none⟩), .int .i64 now, .int .i64 hv, .int .i64 want] w fun en w' => en = .returned (.tuple #[.int .i64 n, .int .i64 e]) ∧ ∃ V', SAt w' B Q V' s' ∧ Step Q V V' w w' ∧ Below B w w' := by
  refine (set_any B Q V s now hv want k w hA hF hk).mono ?_
  rintro en w' ⟨rfl, V', hA', hS'⟩
  subst hn he hs
  exact ⟨rfl, V', hA', hS', hS'.below hA (Nat.le_trans hA.bQ (Nat.le_of_lt hA.lt))⟩
def sl0 : St := new ⟨0, 2, 0, 1⟩ ⟨5, 0, 0, 0⟩
def sl1 : St := setS sl0 1 1 9
def sl2 : St := setS sl1 2 3 9
def sl3 : St := setS sl2 3 5 1
theorem sl_one : setN sl0 1 1 9 = 3 ∧ setE sl0 1 1 9 = 0 := by decide +kernel
theorem sl_two : setN sl1 2 3 9 = 5 ∧ setE sl1 2 3 9 = 0 := by decide +kernel
theorem sl_three : setN sl2 3 5 1 = 5 ∧ setE sl2 3 5 1 = 0 := by decide +kernel
theorem sl_four : setN sl3 8 5 1 = 1 ∧ setE sl3 8 5 1 = 0 := by decide +kernel
theorem sl0_fit : Fit sl0 0 := new_fit _ _
theorem sl1_fit : Fit sl1 2 := sl0_fit.setS 1 1 9
theorem sl2_fit : Fit sl2 4 := sl1_fit.setS 2 3 9
theorem sl3_fit : Fit sl3 6 := sl2_fit.setS 3 5 1
set_option maxHeartbeats 4000000 in
theorem slow_any (w : World) : Calls Try.prog 18 #[] w fun e w' => e = .returned (.bool true) ∧ Below w.heap.size w w' := by
  have cN := fun w => new_any ⟨0, 2, 0, 1⟩ ⟨5, 0, 0, 0⟩ w
  unfold pcV at cN
  have c1 := fun B Q V w h => set_use B Q V sl0 1 1 9 0 w h sl0_fit (by decide) sl_one.1 sl_one.2 (s' := sl1) rfl
  have c2 := fun B Q V w h => set_use B Q V sl1 2 3 9 2 w h sl1_fit (by decide) sl_two.1 sl_two.2 (s' := sl2) rfl
  have c3 := fun B Q V w h => set_use B Q V sl2 3 5 1 4 w h sl2_fit (by decide) sl_three.1 sl_three.2 (s' := sl3) rfl
  have c4 := fun B Q V w h => set_use B Q V sl3 8 5 1 6 w h sl3_fit (by decide) sl_four.1 sl_four.2 rfl
  go_enter Try.func18, Try.ntmps18
  go_wp2_with (first
    | (go_at_call 19; (with_reducible refine (cN _).mono ?_); rintro e w1 ⟨Q, rfl, hA1, hb1⟩; have HA1 : Hid (SAt w1 w.heap.size Q nilV sl0) := hA1; have HB1 : Hid (Below w.heap.size w w1) := hb1; clear hA1 hb1)
    | (go_at_call 20; (with_reducible refine (c1 _ _ _ _ HA1.out).mono ?_); rintro e w2 ⟨rfl, V2, hA2, -, hb2⟩; have HA2 : Hid (SAt w2 w.heap.size Q V2 sl1) := hA2; have HB2 : Hid (Below w.heap.size w w2) := HB1.out.trans hb2; clear hA2 hb2)
    | (go_at_call 20; (with_reducible refine (c2 _ _ _ _ HA2.out).mono ?_); rintro e w3 ⟨rfl, V3, hA3, -, hb3⟩; have HA3 : Hid (SAt w3 w.heap.size Q V3 sl2) := hA3; have HB3 : Hid (Below w.heap.size w w3) := HB2.out.trans hb3; clear hA3 hb3)
    | (go_at_call 20; (with_reducible refine (c3 _ _ _ _ HA3.out).mono ?_); rintro e w4 ⟨rfl, V4, hA4, -, hb4⟩; have HA4 : Hid (SAt w4 w.heap.size Q V4 sl3) := hA4; have HB4 : Hid (Below w.heap.size w w4) := HB3.out.trans hb4; clear hA4 hb4)
    | (go_at_call 20; (with_reducible refine (c4 _ _ _ _ HA4.out).mono ?_); rintro e w5 ⟨rfl, V5, hA5, -, hb5⟩; have HB5 : Hid (Below w.heap.size w w5) := HB4.out.trans hb5; clear hA5 hb5))
  go_ret
  exact ⟨rfl, HB5.out⟩
end Stb
end Go.Proofs.Ytanlhkokghjadaf
