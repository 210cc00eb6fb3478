/- What the document's Plan tells, of every plan. -/
import Derived.Test.YtbnnplfmhmmbnacGreatDoorPkRefPlan4
import Derived.Test.YtbnnplfmhmmbnacGreatDoorPkRefPlan5
import Derived.Test.YtbnnplfmhmmbnacGreatDoorPkRefPlan6
import Derived.Test.YtbnnplfmhmmbnacGreatDoorPkRefPlan7
import Derived.Test.YtbnnplfmhmmbnacGreatDoorPkRefPlan8
import Derived.Test.YtbnnplfmhmmbnacGreatDoorPkPlanCheck
namespace Go.Proofs.YtbnnplfmhmmbnacGreatDoor
namespace Pln
open Go.RowKit Lai Civ Crn RCrn
set_option maxRecDepth 8000

theorem first_bad (ts : List Tr) : (∀ t ∈ ts, trB t = true) ∨ ∃ (k : Nat) (t : Tr), ts[k]? = some t ∧ trB t = false ∧ ∀ (j : Nat) (u : Tr), j < k → ts[j]? = some u → trB u = true := by
  induction ts with
  | nil => exact Or.inl (fun t ht => by cases ht)
  | cons x r ih =>
    cases hx : trB x
    · exact Or.inr ⟨0, x, rfl, hx, fun j u hj => absurd hj (by omega)⟩
    · rcases ih with h | ⟨k, t, h1, h2, h3⟩
      · exact Or.inl (fun t ht => by rcases List.mem_cons.1 ht with rfl | ht; exact hx; exact h t ht)
      · refine Or.inr ⟨k + 1, t, by simpa using h1, h2, fun j u hj hu => ?_⟩
        cases j with
        | zero => simp at hu; rw [← hu]; exact hx
        | succ j => exact h3 j u (by omega) (by simpa using hu)
theorem rplan_any (p : Pd) (ts : List Tr) (a : Option Addr) (cap : Nat) (w : World) (hl : p.nm.length ≤ 9223372036854775807) (hT : TrsAt w a ts) (hU : ∀ t ∈ ts, TrU t) :
    Calls Tryz.prog 5 #[planV p (.slice a ts.length cap)] w fun e w' => e = .returned (.int .i64 (chkP p ts)) ∧ Below w.heap.size w w' := by
  cases h1 : nmB p.nm
  · exact rplan_name p ts a cap w hl h1
  · by_cases h2 : 5 < ts.length
    · exact rplan_many p ts a cap w hl h1 h2
    · cases hn : numB p
      · exact rplan_num p ts a cap w hl h1 h2 hn
      · cases h3 : okP p
        · exact rplan_pace p ts a cap w hl h1 h2 hn h3
        · rcases first_bad ts with h | ⟨k, t, g1, g2, g3⟩
          · exact rplan_good p ts a cap w hl hT hU h1 h2 h3 h
          · have hbad : ¬ ∀ (j : Nat) (t : Tr), j < ts.length → ts[j]? = some t → trB t = true := fun q => by
              have := q k t (List.getElem?_eq_some_iff.1 g1).1 g1
              rw [g2] at this; cases this
            have one : ∀ (k' : Nat) (t' : Tr), (∀ (j : Nat) (u : Tr), j < k' → ts[j]? = some u → trB u = true) → ts[k']? = some t' → trB t' = false → t' = t := fun k' t' q1 q2 q3 => by
              rcases Nat.lt_trichotomy k' k with q | q | q
              · have := g3 k' t' q q2; rw [q3] at this; cases this
              · subst q; rw [g1] at q2; cases q2; rfl
              · have := q1 k t q g1; rw [g2] at this; cases this
            by_cases e3 : t.k = 3
            · exact rplan_bad3 p ts a cap w hl hT hU h1 h2 h3 hbad (fun k' t' q1 q2 q3 => by rw [one k' t' q1 q2 q3]; exact e3)
            · by_cases e1 : t.k = 1
              · exact rplan_bad1 p ts a cap w hl hT hU h1 h2 h3 hbad (fun k' t' q1 q2 q3 => by rw [one k' t' q1 q2 q3]; exact e1)
              · by_cases e2 : t.k = 2
                · exact rplan_bad2 p ts a cap w hl hT hU h1 h2 h3 hbad (fun k' t' q1 q2 q3 => by rw [one k' t' q1 q2 q3]; exact e2)
                · exact rplan_bad0 p ts a cap w hl hT hU h1 h2 h3 hbad (fun k' t' q1 q2 q3 => by rw [one k' t' q1 q2 q3]; exact ⟨e1, e2, e3⟩)
end Pln
end Go.Proofs.YtbnnplfmhmmbnacGreatDoor
