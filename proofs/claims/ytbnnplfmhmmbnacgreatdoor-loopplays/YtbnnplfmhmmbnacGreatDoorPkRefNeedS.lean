/- What the document's answer (tideref) says of readings: Need of a span. -/
import Derived.Test.YtbnnplfmhmmbnacGreatDoorPkRefNeed
import Derived.Test.YtbnnplfmhmmbnacGreatDoorPkRefSpan
namespace Go.Proofs.YtbnnplfmhmmbnacGreatDoor
namespace Ned
open Go.RowKit Plain Num Pln Civ Crn Lai RCiv RCrn
set_option maxRecDepth 8000

set_option maxHeartbeats 4000000 in
theorem rneed_span (t : Tr) (f : Bool) (a : Option Addr) (len cap : Nat) (sec shift : Int) (r : Bool) (w : World) (hk : t.k = 3) (h : 1 ≤ t.tg) (ua : Us t.a) (ub : Us t.b) (ha : kc t.a = true) (hb : kc t.b = true) (ht : tmB sec = true) (hs : shB shift = true) (hr : InQ r t.a t.b (minOf sec shift) shift) :
    Calls Tryz.prog 27 #[trV t, rdV f a len cap, .int .i64 sec, .int .i64 shift] w fun e w' => e = .returned (.tuple #[needV (if r = true then t.tg else 0) r, .int .i64 0]) ∧ Below w.heap.size w w' := by
  obtain ⟨W, hW⟩ : ∃ W, W = ((w.alloc (.cells (trC t) 56)).alloc (.cells #[.bool f, .slice a len cap] 75)).alloc (.cells #[.int .i64 0, .bool false] 77) := ⟨_, rfl⟩
  have hK : BoxAt w W t f (.slice a len cap) := by rw [hW]; exact BoxAt.mk3 w t f _ _ _ _
  have HW : Hid (W = ((w.alloc (.cells (trC t) 56)).alloc (.cells #[.bool f, .slice a len cap] 75)).alloc (.cells #[.int .i64 0, .bool false] 77)) := hW
  have cI := fun w => in_any t.k 1 3 w
  have hin : inB t.k 1 3 = true := by unfold inB; rw [hk]; decide
  rw [hin] at cI
  have cS := fun w => rspan_yes t.a t.b w ua ub ha hb
  have cO := fun w => rof_yes sec shift w ht hs
  have hA := hK.tr
  have k0 := hK.tr.c0
  have k1 := hK.tr.c1
  have h1 : ¬ t.tg < 1 := by omega
  have d3 : (t.k == 3) = true := by rw [hk]; rfl
  unfold ofv civ at cO
  cases r
  · have cW := fun w => rw_false t.a t.b sec shift w ua ub ht hs (fun h => by have := hr.2 h; cases this)
    rw [if_neg (by decide)]
    clear hW hin hr ua ub ha hb ht hs h hk
    go_enter Tryz.func27, Tryz.ntmps27
    go_upto_region 1 with fail
    rw [← HW.out]
    clear HW
    go_wp2_with (first
      | (go_at_call 9; (with_reducible refine (cI _).mono ?_); rintro e w1 ⟨rfl, h9⟩; have h8 := h9.symm; clear h9; subst h8)
      | (with_reducible refine wp_span hA (by with_unfolding_all rfl) ?_)
      | (go_at_call 17; (with_reducible refine (cS _).mono ?_); rintro e w1 ⟨rfl, hb1⟩; have hK1 := hK.next hb1; clear hb1)
      | (go_at_call 44; (with_reducible refine (cO _).mono ?_); rintro e w2 ⟨rfl, hb2⟩; have hK2 := fun o => (hK1.next hb2).next (balloc (w := w2) o); clear hb2)
      | (with_reducible refine wp_span (hK2 _).tr (by with_unfolding_all rfl) ?_)
      | (go_at_call 45; (with_reducible refine (cW _).mono ?_); rintro e w3 ⟨rfl, hb3⟩; have hK3 := (hK2 _).next hb3; have n0 := hK3.n0; have n1 := hK3.n1; have fz := hK3.fz; have q1 := hK3.tr.c1; clear hb3))
    first
      | exact finL (B := w.heap.size + 1 + 1) Tryz.results27 rfl rfl rfl n0 n1 rfl (Nat.le_trans (Nat.le_succ _) (Nat.le_succ _)) hK3.bw
      | exact finN (B := w.heap.size + 1 + 1) Tryz.results27 rfl rfl rfl n0 n1 ⟨rfl, hK3.bw⟩
  · have cW := fun w => rw_true t.a t.b sec shift w ua ub ht hs (hr.1 rfl)
    rw [if_pos rfl]
    clear hW hin hr ua ub ha hb ht hs h hk
    go_enter Tryz.func27, Tryz.ntmps27
    go_upto_region 1 with fail
    rw [← HW.out]
    clear HW
    go_wp2_with (first
      | (go_at_call 9; (with_reducible refine (cI _).mono ?_); rintro e w1 ⟨rfl, h9⟩; have h8 := h9.symm; clear h9; subst h8)
      | (with_reducible refine wp_span hA (by with_unfolding_all rfl) ?_)
      | (go_at_call 17; (with_reducible refine (cS _).mono ?_); rintro e w1 ⟨rfl, hb1⟩; have hK1 := hK.next hb1; clear hb1)
      | (go_at_call 44; (with_reducible refine (cO _).mono ?_); rintro e w2 ⟨rfl, hb2⟩; have hK2 := fun o => (hK1.next hb2).next (balloc (w := w2) o); clear hb2)
      | (with_reducible refine wp_span (hK2 _).tr (by with_unfolding_all rfl) ?_)
      | (go_at_call 45; (with_reducible refine (cW _).mono ?_); rintro e w3 ⟨rfl, hb3⟩; have hK3 := (hK2 _).next hb3; have n0 := hK3.n0; have n1 := hK3.n1; have fz := hK3.fz; have q1 := hK3.tr.c1; clear hb3))
    exact finL (B := w.heap.size + 1 + 1) Tryz.results27 rfl rfl rfl n0 n1 rfl (Nat.le_trans (Nat.le_succ _) (Nat.le_succ _)) hK3.bw
end Ned
end Go.Proofs.YtbnnplfmhmmbnacGreatDoor
