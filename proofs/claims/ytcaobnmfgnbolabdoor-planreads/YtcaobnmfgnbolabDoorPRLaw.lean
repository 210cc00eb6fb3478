/- The law of a plan's text that is read: any text. -/
import Derived.Test.YtcaobnmfgnbolabDoorRefPlanR
import Derived.Test.YtcaobnmfgnbolabDoorPk15
namespace Go.Proofs.YtcaobnmfgnbolabDoor
namespace Pln
open Go.RowKit Lai Civ Crn Pie
set_option maxRecDepth 8000
set_option linter.unusedVariables false

/-- a plan is laid into a new block, by one step of a walk -/
theorem wp_newPl {ops : Array Oper} {rest : List Oper} {x y : Operand} {ps : String} {af : Array Edge} {A : Act} {Q : Exit → Act → World → Prop} {w : World} {p' : Pd} {v' : Value} (hv : v'.oneCell' = true) (hx : A.eval x = .pointer (some ⟨w.heap.size, 0, none⟩)) (hy : A.eval y = planV p' v')
    (g : ∀ w', BX w' w.heap.size p' v' → Below w.heap.size w w' → wpList Tryd.prog ops Q rest (A.put none undef) w') :
    wpList Tryd.prog ops Q ({ dst := none, op := .store 44 x y, type := 0, pos := ps, after := af, guard := none } :: rest) A (w.alloc (.cells #[.string ⟨#[]⟩, .int .i64 0, .int .i64 0, .int .i64 0, .int .i64 0, .int .i64 0, .int .i64 0, .int .i64 0, .int .i64 0, .int .i64 0, .int .i64 0, .int .i64 0, .int .i64 0, .int .i64 0, .int .i64 0, .int .i64 0, .int .i64 0, .slice none 0 0] 44)) := by
  have hX : BX (w.alloc (.cells (planC p0 (.slice none 0 0)) 44)) w.heap.size p0 (.slice none 0 0) := ⟨by simp, fun o => by simp, fun o => by simp⟩
  exact wp_setPl hX hv hx hy fun w' h1 h2 => g w' h1 ((balloc _).trans (h2.below (Nat.le_refl _) (by simp)))
theorem BX.plat {w : World} {R : Nat} {p : Pd} {v : Value} (h : BX w R p v) : PlAt w R p v := PlAt.of h.cel
/-- what is told of a text, told apart -/
theorem read_ways (rd : List UInt8 → Option K) (s : List UInt8) : (∃ n E : Int, ∀ e w', PlanR rd s e w' → e = .returned (.tuple #[planV p0 (.slice none 0 0), .int .i64 n, .int .i64 E])) ∨
    ∃ p ts, ts.length ≤ 5 ∧ ∀ e w', PlanR rd s e w' → ∃ a cap, e = .returned (.tuple #[planV p (.slice a ts.length cap), .int .i64 0, .int .i64 0]) ∧ TrsAt w' a ts := by
  by_cases hl : 2048 < s.length
  · refine Or.inl ⟨0, 2, fun e w' q => ?_⟩
    rcases q with ⟨_, q⟩ | ⟨q, _⟩
    · exact q
    · omega
  · cases hr : readL rd 0 (p0, []) (pieces 10 s) with
    | inl n =>
      refine Or.inl ⟨n, 3, fun e w' q => ?_⟩
      rcases q with ⟨q, _⟩ | ⟨_, q⟩
      · omega
      · rw [hr] at q; exact q
    | inr st =>
      obtain ⟨p, ts⟩ := st
      by_cases hE : chkP p ts = 0
      · refine Or.inr ⟨p, ts, (chk_parts hE).2.1, fun e w' q => ?_⟩
        rcases q with ⟨q, _⟩ | ⟨_, q⟩
        · omega
        · rw [hr] at q
          rcases q with ⟨q, _⟩ | ⟨_, a, cap, q1, q2, _, _⟩
          · exact absurd hE q
          · exact ⟨a, cap, q1, q2⟩
      · refine Or.inl ⟨0, chkP p ts, fun e w' q => ?_⟩
        rcases q with ⟨q, _⟩ | ⟨_, q⟩
        · omega
        · rw [hr] at q
          rcases q with ⟨_, q⟩ | ⟨q, _⟩
          · exact q
          · exact absurd q hE
set_option maxHeartbeats 4000000 in
theorem preads_any (s : List UInt8) (w : World) (hB : BdsAt w) (hM : MlAt w) (hs : s.length ≤ 9223372036854775807) :
    Calls Tryd.prog 5 #[strV s] w fun e w' => e = .returned (.bool true) ∧ Below w.heap.size w w' := by
  obtain ⟨rd, hrd⟩ := rd_exists
  have c1 := pparse_any hrd s w hB hM hs
  have c2 := fun w => rread_any hrd s w hs
  rcases read_ways rd s with ⟨n, E, hR⟩ | ⟨p, ts, hts, hR⟩
  · have d1 : Calls Tryd.prog 18 #[strV s] w fun e w' => e = .returned (.tuple #[planV p0 (.slice none 0 0), .int .i64 n, .int .i64 E]) ∧ Below w.heap.size w w' := c1.mono fun e w' h => ⟨hR e w' h.1, h.2⟩
    have d2 : ∀ w, Calls Tryd.prog 19 #[strV s] w fun e w' => e = .returned (.tuple #[planV p0 (.slice none 0 0), .int .i64 n, .int .i64 E]) ∧ Below w.heap.size w w' := fun w => (c2 w).mono fun e w' h => ⟨hR e w' h.1, h.2⟩
    have d3 : ∀ w, Calls Tryd.prog 20 #[planV p0 (.slice none 0 0), planV p0 (.slice none 0 0)] w fun e w' => e = .returned (.bool true) ∧ Below w.heap.size w w' := fun w => same_any p0 [] none none 0 0 w (fun i t h => by simp at h) (fun i t h => by simp at h) (by simp)
    clear c1 c2 hR hB hM hs hrd
    go_enter Tryd.func5, Tryd.ntmps5
    go_wp2_with (first
      | (go_at_call 18; (with_reducible refine d1.mono ?_); rintro e w1 ⟨rfl, hb1⟩)
      | ((with_reducible refine wp_newPl (w := w1) (p' := p0) (v' := .slice none 0 0) rfl (by with_unfolding_all rfl) (by with_unfolding_all rfl) ?_); intro w2 hX2 hb2; have hw2 := hb1.trans (hb2.mono hb1.size); have hz2 := hX2.lt)
      | (go_at_call 19; (with_reducible refine (d2 w2).mono ?_); rintro e w3 ⟨rfl, hb3⟩; have hw3 := hw2.trans (hb3.mono hw2.size); have hA3 := hX2.plat.on hb3 hz2; have hz3 := Nat.lt_of_lt_of_le hz2 hb3.size)
      | ((with_reducible refine wp_newPl (w := w3) (p' := p0) (v' := .slice none 0 0) rfl (by with_unfolding_all rfl) (by with_unfolding_all rfl) ?_); intro w4 hX4 hb4; have hw4 := hw3.trans (hb4.mono hw3.size); have hA4 := hA3.on hb4 hz3; have hB4 := hX4.plat)
      | (with_reducible refine wp_plan hA4 (by with_unfolding_all rfl) ?_)
      | (with_reducible refine wp_plan hB4 (by with_unfolding_all rfl) ?_)
      | (go_at_call 20; (with_reducible refine (d3 w4).mono ?_); rintro e w5 ⟨rfl, hb5⟩; have hw5 := hw4.trans (hb5.mono hw4.size)))
    all_goals
      go_ret
      exact ⟨by simp, hw5⟩
  · have d1 : Calls Tryd.prog 18 #[strV s] w fun e w' => (∃ a cap, e = .returned (.tuple #[planV p (.slice a ts.length cap), .int .i64 0, .int .i64 0]) ∧ TrsAt w' a ts) ∧ Below w.heap.size w w' := c1.mono fun e w' h => ⟨hR e w' h.1, h.2⟩
    have d2 : ∀ w, Calls Tryd.prog 19 #[strV s] w fun e w' => (∃ a cap, e = .returned (.tuple #[planV p (.slice a ts.length cap), .int .i64 0, .int .i64 0]) ∧ TrsAt w' a ts) ∧ Below w.heap.size w w' := fun w => (c2 w).mono fun e w' h => ⟨hR e w' h.1, h.2⟩
    have hlt : ts.length ≤ 9223372036854775807 := by omega
    clear c1 c2 hR hB hM hs hrd
    go_enter Tryd.func5, Tryd.ntmps5
    go_wp2_with (first
      | (go_at_call 18; (with_reducible refine d1.mono ?_); rintro e w1 ⟨⟨a1, k1, rfl, hT1⟩, hb1⟩)
      | ((with_reducible refine wp_newPl (w := w1) (p' := p) (v' := .slice a1 ts.length k1) rfl (by with_unfolding_all rfl) (by with_unfolding_all rfl) ?_); intro w2 hX2 hb2; have hw2 := hb1.trans (hb2.mono hb1.size); have hz2 := hX2.lt; have hT2 := hT1.below hb2 (Nat.le_refl _))
      | (go_at_call 19; (with_reducible refine (d2 w2).mono ?_); rintro e w3 ⟨⟨a3, k3, rfl, hT3⟩, hb3⟩; have hw3 := hw2.trans (hb3.mono hw2.size); have hA3 := hX2.plat.on hb3 hz2; have hz3 := Nat.lt_of_lt_of_le hz2 hb3.size; have hU3 := hT2.below hb3 (Nat.le_refl _))
      | ((with_reducible refine wp_newPl (w := w3) (p' := p) (v' := .slice a3 ts.length k3) rfl (by with_unfolding_all rfl) (by with_unfolding_all rfl) ?_); intro w4 hX4 hb4; have hw4 := hw3.trans (hb4.mono hw3.size); have hA4 := hA3.on hb4 hz3; have hB4 := hX4.plat; have hT4 := hT3.below hb4 (Nat.le_refl _); have hU4 := hU3.below hb4 (Nat.le_refl _))
      | (with_reducible refine wp_plan hA4 (by with_unfolding_all rfl) ?_)
      | (with_reducible refine wp_plan hB4 (by with_unfolding_all rfl) ?_)
      | (go_at_call 20; (with_reducible refine (same_any p ts a1 a3 k1 k3 w4 hU4 hT4 hlt).mono ?_); rintro e w5 ⟨rfl, hb5⟩; have hw5 := hw4.trans (hb5.mono hw4.size)))
    all_goals
      go_ret
      exact ⟨by simp, hw5⟩
end Pln
end Go.Proofs.YtcaobnmfgnbolabDoor
