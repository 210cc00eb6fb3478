
/- What need.Want answers of a reading that did not fail. -/
import Derived.Test.YtcaobnmfgnbolafDoorNeedWant
namespace Go.Proofs.YtcaobnmfgnbolafDoor
namespace Ned
open Go.RowKit Plain Num Pln Civ Crn Lai
set_option maxRecDepth 8000

theorem mul_bd {now tg : Int} (h1 : 0 ≤ now) (h3 : 1 ≤ tg) : 0 ≤ mulc (clip now) (clip tg) ∧ mulc (clip now) (clip tg) ≤ 1000000000000000 := by
  refine ⟨?_, (clip_bd _).2⟩
  unfold mulc
  exact clip_ge (Int.mul_nonneg (clip_ge h1) (by have := clip_pos h3; omega))
set_option maxHeartbeats 4000000 in
/-- no pod: what is needed -/
theorem want_none (tol : Int) (t : Tr) (a : Option Addr) (len cap : Nat) (X : Nat → Int) (w : World) (hk : t.k = 1 ∨ t.k = 2) (h3 : 0 ≤ tol) (h4 : tol ≤ 1000) (ht : 1 ≤ t.tg) (hm : len ≤ maxLen) (hX : IntsAt w a len X) :
    Calls Tryd.prog 14 #[.int .i64 0, .int .i64 tol, trV t, rdV false a len cap] w fun e w' => e = .returned (.tuple #[.int .i64 (podF t.k t.tg len X), .int .i64 0]) ∧ Below w.heap.size w w' := by
  have cc := fun w => counts_any t w
  have hd : decide (t.k = 1 ∨ t.k = 2) = true := by simp [hk]
  rw [hd] at cc
  have hA := fun ta o => TrAt.two w t ta o
  have co := fun w' (hb : Below w.heap.size w w') => ofr_yes t a len cap X w' ht hm (hX.below hb (Nat.le_refl _))
  generalize decide (t.ac < metF t.k len X) = ac at co
  generalize podF t.k t.tg len X = pd at co ⊢
  clear hd hk hX ht hm
  go_enter Tryd.func14, Tryd.ntmps14
  go_wp2_with (first
    | (with_reducible refine wp_tr (hA _ _) (by with_unfolding_all rfl) ?_)
    | (go_at_call 26; (with_reducible refine (cc _).mono ?_); rintro e w1 ⟨rfl, hb1⟩; have hK := (Box2.mk2 w t false (.slice a len cap) _ _).next hb1; have hA1 := hK.tr; have r0 := hK.r0; have r1 := hK.r1)
    | (with_reducible refine wp_tr hA1 (by with_unfolding_all rfl) ?_)
    | (go_at_call 27; (with_reducible refine (co _ hK.bw).mono ?_); rintro e w2 ⟨rfl, hb2⟩; have hw2 := hK.bw.trans (hb2.mono (Nat.le_trans (Nat.le_add_right _ 2) hK.sz))))
  go_region
  all_goals
    go_wp2
    go_ret2
    exact ⟨rfl, (hw2.alloc hw2.size _).drew⟩
end Ned
end Go.Proofs.YtcaobnmfgnbolafDoor
