/- What the document's Plan tells, of every plan. A plan as an argument of a law: its triggers, out of their cells. The law of a plan's check and text. -/
import Derived.Test.YtcaobnmfgnbolabDoorPk13
import Derived.Test.YtcaobnmfgnbolabDoorPk14
import Derived.Test.YtcaobnmfgnbolabDoorPk15
import Derived.Test.YtcaobnmfgnbolabDoorPk8
import Derived.Test.YtcaobnmfgnbolabDoorFrame
import Derived.Test.YtcaobnmfgnbolabDoorPk17
namespace Go.Proofs.YtcaobnmfgnbolabDoor
namespace Pln
open Go.RowKit Lai Civ Crn RCrn
set_option maxRecDepth 8000

theorem first_bad (ts : List Tr) : (∀ t ∈ ts, trB t = true) ∨ ∃ (k : Nat) (t : Tr), ts[k]? = some t ∧ trB t = false ∧ ∀ (j : Nat) (u : Tr), j < k → ts[j]? = some u → trB u = true := by
  induction ts with
  | nil => exact Or.inl (fun t ht => by cases ht)
  | cons x r ih =>
    cases hx : trB x
    · exact Or.inr ⟨0, x, rfl, hx, fun j u hj => absurd hj (by omega)⟩
    · rcases ih with h | ⟨k, t, h1, h2, h3⟩
      · exact Or.inl (fun t ht => by rcases List.mem_cons.1 ht with rfl | ht; exact hx; exact h t ht)
      · refine Or.inr ⟨k + 1, t, by simpa using h1, h2, fun j u hj hu => ?_⟩
        cases j with
        | zero => simp at hu; rw [← hu]; exact hx
        | succ j => exact h3 j u (by omega) (by simpa using hu)
theorem rplan_any (p : Pd) (ts : List Tr) (a : Option Addr) (cap : Nat) (w : World) (hl : p.nm.length ≤ 9223372036854775807) (hT : TrsAt w a ts) (hU : ∀ t ∈ ts, TrU t) :
    Calls Tryd.prog 14 #[planV p (.slice a ts.length cap)] w fun e w' => e = .returned (.int .i64 (chkP p ts)) ∧ Below w.heap.size w w' := by
  cases h1 : nmB p.nm
  · exact rplan_name p ts a cap w hl h1
  · by_cases h2 : 5 < ts.length
    · exact rplan_many p ts a cap w hl h1 h2
    · cases hn : numB p
      · exact rplan_num p ts a cap w hl h1 h2 hn
      · cases h3 : okP p
        · exact rplan_pace p ts a cap w hl h1 h2 hn h3
        · rcases first_bad ts with h | ⟨k, t, g1, g2, g3⟩
          · exact rplan_good p ts a cap w hl hT hU h1 h2 h3 h
          · have hbad : ¬ ∀ (j : Nat) (t : Tr), j < ts.length → ts[j]? = some t → trB t = true := fun q => by
              have := q k t (List.getElem?_eq_some_iff.1 g1).1 g1
              rw [g2] at this; cases this
            have one : ∀ (k' : Nat) (t' : Tr), (∀ (j : Nat) (u : Tr), j < k' → ts[j]? = some u → trB u = true) → ts[k']? = some t' → trB t' = false → t' = t := fun k' t' q1 q2 q3 => by
              rcases Nat.lt_trichotomy k' k with q | q | q
              · have := g3 k' t' q q2; rw [q3] at this; cases this
              · subst q; rw [g1] at q2; cases q2; rfl
              · have := q1 k t q g1; rw [g2] at this; cases this
            by_cases e3 : t.k = 3
            · exact rplan_bad3 p ts a cap w hl hT hU h1 h2 h3 hbad (fun k' t' q1 q2 q3 => by rw [one k' t' q1 q2 q3]; exact e3)
            · by_cases e1 : t.k = 1
              · exact rplan_bad1 p ts a cap w hl hT hU h1 h2 h3 hbad (fun k' t' q1 q2 q3 => by rw [one k' t' q1 q2 q3]; exact e1)
              · by_cases e2 : t.k = 2
                · exact rplan_bad2 p ts a cap w hl hT hU h1 h2 h3 hbad (fun k' t' q1 q2 q3 => by rw [one k' t' q1 q2 q3]; exact e2)
                · exact rplan_bad0 p ts a cap w hl hT hU h1 h2 h3 hbad (fun k' t' q1 q2 q3 => by rw [one k' t' q1 q2 q3]; exact ⟨e1, e2, e3⟩)
end Pln
end Go.Proofs.YtcaobnmfgnbolabDoor
namespace Go.Proofs.YtcaobnmfgnbolabDoor
namespace Pln
open Go.RowKit Lai Civ Crn
set_option maxRecDepth 8000

theorem tr_of {W : World} {a : Option Addr} {len : Nat} {X : Nat → Nat → Value} (h : Frm.CellsIn W a len 17 X) (hk : Frm.LeavesIn len [.i64, .i64, .i64, .u64, .u64, .u64, .u64, .u64, .bool, .bool, .u64, .u64, .u64, .u64, .u64, .bool, .bool] X) (i : Nat) (hi : i < len) : ∃ t : Tr, TrU t ∧ ∃ b off, a = some ⟨b, off, none⟩ ∧ b < W.heap.size ∧ ∀ j, j < 17 → W.cell? ⟨b, off + (i * 17 + j), none⟩ = (trC t)[j]? := by
  obtain ⟨z0, e0, b0⟩ := hk i hi 0 _ rfl
  obtain ⟨z1, e1, b1⟩ := hk i hi 1 _ rfl
  obtain ⟨z2, e2, b2⟩ := hk i hi 2 _ rfl
  obtain ⟨z3, e3, b3⟩ := hk i hi 3 _ rfl
  obtain ⟨z4, e4, b4⟩ := hk i hi 4 _ rfl
  obtain ⟨z5, e5, b5⟩ := hk i hi 5 _ rfl
  obtain ⟨z6, e6, b6⟩ := hk i hi 6 _ rfl
  obtain ⟨z7, e7, b7⟩ := hk i hi 7 _ rfl
  obtain ⟨z8, e8⟩ := hk i hi 8 _ rfl
  obtain ⟨z9, e9⟩ := hk i hi 9 _ rfl
  obtain ⟨z10, e10, b10⟩ := hk i hi 10 _ rfl
  obtain ⟨z11, e11, b11⟩ := hk i hi 11 _ rfl
  obtain ⟨z12, e12, b12⟩ := hk i hi 12 _ rfl
  obtain ⟨z13, e13, b13⟩ := hk i hi 13 _ rfl
  obtain ⟨z14, e14, b14⟩ := hk i hi 14 _ rfl
  obtain ⟨z15, e15⟩ := hk i hi 15 _ rfl
  obtain ⟨z16, e16⟩ := hk i hi 16 _ rfl
  obtain ⟨b, off, ha, hlt, hc⟩ := h i hi
  refine ⟨⟨z0, z1, z2, ⟨z3, z4, z5, z6, z7, z8, z9⟩, ⟨z10, z11, z12, z13, z14, z15, z16⟩⟩, ⟨b0, b1, b2, ⟨b3, b4, b5, b6, b7⟩, ⟨b10, b11, b12, b13, b14⟩⟩, b, off, ha, hlt, fun j hj => ?_⟩
  rw [hc j hj]
  match j, hj with
  | 0, _ => rw [e0]; simp
  | 1, _ => rw [e1]; simp
  | 2, _ => rw [e2]; simp
  | 3, _ => rw [e3]; simp
  | 4, _ => rw [e4]; simp
  | 5, _ => rw [e5]; simp
  | 6, _ => rw [e6]; simp
  | 7, _ => rw [e7]; simp
  | 8, _ => rw [e8]; simp
  | 9, _ => rw [e9]; simp
  | 10, _ => rw [e10]; simp
  | 11, _ => rw [e11]; simp
  | 12, _ => rw [e12]; simp
  | 13, _ => rw [e13]; simp
  | 14, _ => rw [e14]; simp
  | 15, _ => rw [e15]; simp
  | 16, _ => rw [e16]; simp
  | j + 17, hj => omega
theorem trs_of {W : World} {a : Option Addr} {len : Nat} {X : Nat → Nat → Value} (h : Frm.CellsIn W a len 17 X) (hk : Frm.LeavesIn len [.i64, .i64, .i64, .u64, .u64, .u64, .u64, .u64, .bool, .bool, .u64, .u64, .u64, .u64, .u64, .bool, .bool] X) : ∃ ts : List Tr, ts.length = len ∧ TrsAt W a ts ∧ ∀ t ∈ ts, TrU t := by
  classical
  let f : Nat → Tr := fun i => if hi : i < len then Classical.choose (tr_of h hk i hi) else ⟨0, 0, 0, ⟨0, 0, 0, 0, 0, false, false⟩, ⟨0, 0, 0, 0, 0, false, false⟩⟩
  have hf : ∀ i, i < len → TrU (f i) ∧ ∃ b off, a = some ⟨b, off, none⟩ ∧ b < W.heap.size ∧ ∀ j, j < 17 → W.cell? ⟨b, off + (i * 17 + j), none⟩ = (trC (f i))[j]? := fun i hi => by
    have := Classical.choose_spec (tr_of h hk i hi)
    simp only [f, dif_pos hi]
    exact this
  refine ⟨(List.range len).map f, by simp, fun i t ht => ?_, fun t ht => ?_⟩
  · have hlt : i < len := by have := (List.getElem?_eq_some_iff.1 ht).1; simpa using this
    rw [List.getElem?_map, List.getElem?_range hlt] at ht
    obtain rfl : f i = t := by simpa using ht
    exact (hf i hlt).2
  · obtain ⟨i, hi, rfl⟩ := List.mem_map.1 ht
    exact (hf i (List.mem_range.1 hi)).1
end Pln
end Go.Proofs.YtcaobnmfgnbolabDoor
namespace Go.Proofs.YtcaobnmfgnbolabDoor
namespace Pln
open Go.RowKit Lai Civ Crn RCrn
set_option maxRecDepth 8000

set_option maxHeartbeats 4000000 in
theorem print_bad (p : Pd) (ts : List Tr) (a : Option Addr) (cap : Nat) (w : World) (hB : BdsAt w) (hi : PdI p) (hl : p.nm.length ≤ 9223372036854775807) (hTr : TrsAt w a ts) (E : Int) (h : chkP p ts = E) (hE : E ≠ 0) :
    Calls Tryd.prog 16 #[planV p (.slice a ts.length cap)] w fun e w' => e = .returned (.tuple #[.string ⟨#[]⟩, .int .i64 E]) ∧ Below w.heap.size w w' := by
  have c0 := fun w hB hTr => check_any p ts a cap w hB hi hl hTr
  rw [h] at c0
  have hA0 := PlAt.new' w p (.slice a ts.length cap) 44
  have hB0 := fun o => hB.below (balloc o) (Nat.le_refl _)
  have hTr0 := fun o => hTr.below (balloc o) (Nat.le_refl _)
  have hne : (E != 0) = true := by rw [bne_iff_ne]; exact hE
  clear h
  go_enter Tryd.func16, Tryd.ntmps16
  go_wp2_with (first
    | (with_reducible refine wp_plan hA0 (by with_unfolding_all rfl) ?_)
    | (go_at_call 17; (with_reducible refine (c0 _ (hB0 _) (hTr0 _)).mono ?_); rintro e w1 ⟨rfl, hb1⟩))
  go_ret2
  exact ⟨rfl, (balloc _).trans (hb1.mono (by simp))⟩
set_option maxHeartbeats 4000000 in
theorem psays_bad (p : Pd) (ts : List Tr) (a : Option Addr) (cap : Nat) (w : World) (hB : BdsAt w) (hi : PdI p) (hl : p.nm.length ≤ 9223372036854775807) (hTr : TrsAt w a ts) (hU : ∀ t ∈ ts, TrU t) (E : Int) (h : chkP p ts = E) (hE : E ≠ 0) :
    Calls Tryd.prog 4 #[planV p (.slice a ts.length cap)] w fun e w' => e = .returned (.bool true) ∧ Below w.heap.size w w' := by
  have c0 := fun w hTr => rplan_any p ts a cap w hl hTr hU
  have c1 := fun w hB hTr => print_bad p ts a cap w hB hi hl hTr E h hE
  have c2 := fun w hB hTr => check_any p ts a cap w hB hi hl hTr
  rw [h] at c0 c2
  have hA0 := PlAt.new' w p (.slice a ts.length cap) 44
  have hTr0 := fun o => hTr.below (balloc o) (Nat.le_refl _)
  have heq : (E == 0) = false := by rw [beq_eq_false_iff_ne]; exact hE
  clear h hE
  go_enter Tryd.func4, Tryd.ntmps4
  go_wp2_with (first
    | (with_reducible refine wp_plan hA0 (by with_unfolding_all rfl) ?_)
    | (with_reducible refine wp_plan hA1 (by with_unfolding_all rfl) ?_)
    | (with_reducible refine wp_plan hA2 (by with_unfolding_all rfl) ?_)
    | (go_at_call 14; (with_reducible refine (c0 _ (hTr0 _)).mono ?_); rintro e w1 ⟨rfl, hb1⟩; obtain ⟨hC1, hz1, hw1⟩ := boxB hb1; have hA1 : PlAt w1 w.heap.size p (.slice a ts.length cap) := PlAt.of hC1; clear hC1; have hB1 := hB.below hw1 (Nat.le_refl _); have hT1 := hTr.below hw1 (Nat.le_refl _))
    | (go_at_call 16; (with_reducible refine (c1 _ hB1 hT1).mono ?_); rintro e w2 ⟨rfl, hb2⟩; have hA2 := hA1.on hb2 hz1; have hz2 := Nat.lt_of_lt_of_le hz1 hb2.size; have hw2 : Below w.heap.size w w2 := hw1.trans (hb2.mono hw1.size); have hB2 := hB.below hw2 (Nat.le_refl _); have hT2 := hTr.below hw2 (Nat.le_refl _))
    | (go_at_call 17; (with_reducible refine (c2 _ hB2 hT2).mono ?_); rintro e w3 ⟨rfl, hb3⟩; have hw3 : Below w.heap.size w w3 := hw2.trans (hb3.mono hw2.size)))
  go_ret
  exact ⟨by simp, hw3⟩
set_option maxHeartbeats 4000000 in
theorem psays_good (p : Pd) (ts : List Tr) (a : Option Addr) (cap : Nat) (w : World) (hB : BdsAt w) (hT : TabIs64 w) (hP : PowAt w) (hi : PdI p) (hl : p.nm.length ≤ 9223372036854775807) (hTr : TrsAt w a ts) (hU : ∀ t ∈ ts, TrU t) (h : chkP p ts = 0) (rt : ∀ w, PowAt w → TrsAt w a ts → Calls Tryd.prog 15 #[planV p (.slice a ts.length cap)] w fun e w' => e = .returned (strV (planT kT p ts)) ∧ Below w.heap.size w w') :
    Calls Tryd.prog 4 #[planV p (.slice a ts.length cap)] w fun e w' => e = .returned (.bool true) ∧ Below w.heap.size w w' := by
  have c0 := fun w hTr => rplan_any p ts a cap w hl hTr hU
  have c3 := rt
  clear rt
  have c1 := fun w hB hT hP hTr => print_ok p ts a cap w hB hT hP hi hTr hU h
  have c2 := fun w hB hTr => check_any p ts a cap w hB hi hl hTr
  rw [h] at c0 c2
  have hA0 := PlAt.new' w p (.slice a ts.length cap) 44
  have hTr0 := fun o => hTr.below (balloc o) (Nat.le_refl _)
  have TXe : ∃ T, T = planT kT p ts := ⟨_, rfl⟩
  obtain ⟨TX, hTX⟩ := TXe
  rw [← hTX] at c3 c1
  clear hTX
  clear h
  go_enter Tryd.func4, Tryd.ntmps4
  go_wp2_with (first
    | (with_reducible refine wp_plan hA0 (by with_unfolding_all rfl) ?_)
    | (with_reducible refine wp_plan hA1 (by with_unfolding_all rfl) ?_)
    | (with_reducible refine wp_plan hA4 (by with_unfolding_all rfl) ?_)
    | (with_reducible refine wp_plan hA2 (by with_unfolding_all rfl) ?_)
    | (go_at_call 14; (with_reducible refine (c0 _ (hTr0 _)).mono ?_); rintro e w1 ⟨rfl, hb1⟩; obtain ⟨hC1, hz1, hw1⟩ := boxB hb1; have hA1 : PlAt w1 w.heap.size p (.slice a ts.length cap) := PlAt.of hC1; clear hC1; have hP1 := hP.below hw1 (Nat.le_refl _); have hT1 := hTr.below hw1 (Nat.le_refl _))
    | (go_at_call 15; (with_reducible refine (c3 _ hP1 hT1).mono ?_); rintro e w4 ⟨rfl, hb4⟩; have hA4 := hA1.on hb4 hz1; have hz4 := Nat.lt_of_lt_of_le hz1 hb4.size; have hw4 : Below w.heap.size w w4 := hw1.trans (hb4.mono hw1.size); have hB4 := hB.below hw4 (Nat.le_refl _); have hT4 := hTr.below hw4 (Nat.le_refl _); have hP4 := hP.below hw4 (Nat.le_refl _); have hD4 := hT.below hw4 (Nat.le_refl _))
    | (go_at_call 16; (with_reducible refine (c1 _ hB4 hD4 hP4 hT4).mono ?_); rintro e w2 ⟨rfl, hb2⟩; have hA2 := hA4.on hb2 hz4; have hw2 : Below w.heap.size w w2 := hw4.trans (hb2.mono hw4.size); have hB2 := hB.below hw2 (Nat.le_refl _); have hT2 := hTr.below hw2 (Nat.le_refl _))
    | (go_at_call 17; (with_reducible refine (c2 _ hB2 hT2).mono ?_); rintro e w3 ⟨rfl, hb3⟩; have hw3 : Below w.heap.size w w3 := hw2.trans (hb3.mono hw2.size)))
  go_ret
  exact ⟨by simp, hw3⟩
theorem psays_any (p : Pd) (ts : List Tr) (a : Option Addr) (cap : Nat) (w : World) (hB : BdsAt w) (hT : TabIs64 w) (hP : PowAt w) (hi : PdI p) (hl : p.nm.length ≤ 9223372036854775807) (hTr : TrsAt w a ts) (hU : ∀ t ∈ ts, TrU t) (rt : chkP p ts = 0 → ∀ w, PowAt w → TrsAt w a ts → Calls Tryd.prog 15 #[planV p (.slice a ts.length cap)] w fun e w' => e = .returned (strV (planT kT p ts)) ∧ Below w.heap.size w w') :
    Calls Tryd.prog 4 #[planV p (.slice a ts.length cap)] w fun e w' => e = .returned (.bool true) ∧ Below w.heap.size w w' := by
  by_cases h : chkP p ts = 0
  · exact psays_good p ts a cap w hB hT hP hi hl hTr hU h (rt h)
  · exact psays_bad p ts a cap w hB hi hl hTr hU _ rfl h
end Pln
end Go.Proofs.YtcaobnmfgnbolabDoor
