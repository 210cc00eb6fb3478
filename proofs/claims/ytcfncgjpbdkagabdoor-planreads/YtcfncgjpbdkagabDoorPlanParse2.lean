/- What plan.Parse answers, of every text: the loop. -/
import Derived.Test.YtcfncgjpbdkagabDoorPlanParse
namespace Go.Proofs.YtcfncgjpbdkagabDoor
namespace Pln
open Go.RowKit Lai Civ Crn Pie
set_option maxRecDepth 8000

set_option maxHeartbeats 4000000 in
theorem parse_short {rd : List UInt8 → Option K} (hrd : RdOk rd) (s : List UInt8) (w : World) (hB : BdsAt w) (hM : MlAt w) (h : s.length ≤ 2048) :
    Calls Tryd.prog 17 #[strV s] w fun e w' => PlanR rd s e w' ∧ Below w.heap.size w w' := by
  have hsz : (⟨s.toArray⟩ : ByteArray).size = s.length := rfl
  have h1 : ¬ (2048 : Int) < s.length := by omega
  obtain ⟨w1, hw1, hX1, hz1, hb1, hP1⟩ := pa_start rd s w 44
  have HA : Hid (∀ e w', ReadR (readL rd 0 (p0, []) (pieces 10 s)) e w' → PlanR rd s e w') := fun e w' g => Or.inr ⟨h, g⟩
  have HB : Hid (∀ w', Below (w.heap.size + 1) w1 w' → BdsAt w' ∧ MlAt w') := fun w' g => ⟨(hB.below hb1 (Nat.le_refl _)).below g (by omega), (hM.below hb1 (Nat.le_refl _)).below g (by omega)⟩
  have HX : Hid (∀ w', Below (w.heap.size + 1) w1 w' → BX w' w.heap.size p0 (.slice none 0 0)) := fun w' g => hX1.below g (by omega)
  have HW : Hid (∀ w', Below (w.heap.size + 1) w1 w' → Below w.heap.size w w') := fun w' g => hb1.trans (g.mono (by omega))
  have HP1 : Hid (PaR rd s w w1 (strV s) (.int .i64 1) _) := hP1
  clear hB hM hX1 hb1 hP1
  go_enter Tryd.func17, Tryd.ntmps17
  go_wp2
  rw [← hw1]
  go_loopw [0, 6] (fun sv lv wr => PaR rd s w w1 sv lv wr) (fun sv _ _ => strLen sv)
  case atStart => exact HP1.out
  case round =>
    clear HP1
    obtain ⟨i, p, ts, s', v, rfl, rfl, hrd', hlen, htl, hgp, hS, hbr⟩ := hrel
    have hs' : (⟨s'.toArray⟩ : ByteArray).size = s'.length := rfl
    have hbl := HX.out wr hbr
    have hSN := hS.nN
    have hWs : w.heap.size ≤ wr.heap.size := by omega
    have HS : Hid (PS wr 63 (w.heap.size + 1) (w.heap.size + 1) p ts v) := hS
    have hgi : (i : Int) ≤ 2048 := by omega
    by_cases hend : 4 ≤ i ∧ s' = []
    · obtain ⟨h4, rfl⟩ := hend
      have d1 : ¬ (i : Int) + 1 ≤ 4 := by omega
      have HR : Hid (readL rd 0 (p0, []) (pieces 10 s) = .inr (p, ts)) := hrd'.trans (readL_stop h4)
      obtain ⟨ao, cap, rfl, hc1, hc2, hTr⟩ := hS.form
      have cK := check_any p ts ao cap wr (HB.out _ hbr).1 hgp.1 (by have := hgp.2; omega) hTr
      have hA := hS.plat
      clear hrd' hgp hTr hS
      by_cases hE : chkP p ts = 0
      · rw [hE] at cK
        have HE : Hid (chkP p ts = 0) := hE
        clear hE
        go_wp2_with (first
          | (with_reducible refine wp_plan hA (by with_unfolding_all rfl) ?_)
          | (with_reducible refine wp_plan hA3 (by with_unfolding_all rfl) ?_)
          | ((with_reducible refine wp_setPl (p' := p) (v' := .slice ao ts.length cap) hX3 rfl (by with_unfolding_all rfl) (by with_unfolding_all rfl) ?_); intro w5 hX5 hO5)
          | (go_at_call 16; (with_reducible refine cK.mono ?_); rintro e w3 ⟨rfl, hb3⟩; have hw3 : Below (w.heap.size + 1) w1 w3 := hbr.trans (hb3.mono hSN); have hX3 := HX.out _ hw3; have hA3 := (HS.out.below hb3).plat))
        have hWs3 := (HW.out _ hw3).size
        have hS5 := (HS.out.below hb3).other hO5 (by omega)
        obtain ⟨ao', cap', hv, hc1', hc2', hTr'⟩ := hS5.form
        simp only [Value.slice.injEq] at hv
        obtain ⟨rfl, _, rfl⟩ := hv
        exact finPl rfl rfl rfl rfl hX5 (HA.out _ _ (by rw [HR.out]; exact Or.inr ⟨HE.out, _, _, rfl, hTr', hc1', hc2'⟩)) ((HW.out _ hw3).trans (hO5.below (Nat.le_refl _) hWs3))
      · have HE : Hid (chkP p ts ≠ 0) := hE
        generalize hEE : chkP p ts = E at cK
        have HEE : Hid (chkP p ts = E) := hEE
        have hE2 : (E != 0) = true := by rw [bne_iff_ne]; rw [← hEE]; exact hE
        have hE3 : ¬ E = 0 := by rw [← hEE]; exact hE
        clear hE hEE
        go_wp2_with (first
          | (with_reducible refine wp_plan hA (by with_unfolding_all rfl) ?_)
          | ((with_reducible refine wp_setPl (p' := p0) (v' := .slice none 0 0) hX3 rfl (by with_unfolding_all rfl) (by with_unfolding_all rfl) ?_); intro w5 hX5 hO5)
          | (go_at_call 16; (with_reducible refine cK.mono ?_); rintro e w3 ⟨rfl, hb3⟩; have hw3 : Below (w.heap.size + 1) w1 w3 := hbr.trans (hb3.mono hSN); have hX3 := HX.out _ hw3))
        have hWs3 := (HW.out _ hw3).size
        exact finPl rfl rfl rfl rfl hX5 (HA.out _ _ (by rw [HR.out]; exact Or.inl ⟨HE.out, by rw [HEE.out]; rfl⟩)) ((HW.out _ hw3).trans (hO5.below (Nat.le_refl _) hWs3))
    · rcases cut_cases 10 s' with hno | ⟨a, b, rfl, ha⟩
      · have cC := fun w => cut_no s' 10 w hno
        have HR : Hid (∀ w', ReadR (readL rd 0 (p0, []) (pieces 10 s)) (.returned (.tuple #[planV p0 (.slice none 0 0), .int .i64 ((i : Int) + 1), .int .i64 3])) w') := by
          intro w'
          rw [hrd', readL_none hno hend]
          rfl
        clear hrd' hno hS hgp
        by_cases hi4 : i < 4
        · have d1 : (i : Int) + 1 ≤ 4 := by omega
          go_wp2_with (first
            | ((with_reducible refine wp_setPl (p' := p0) (v' := .slice none 0 0) hbl rfl (by with_unfolding_all rfl) (by with_unfolding_all rfl) ?_); intro w5 hX5 hO5)
            | (go_at_call 39; (with_reducible refine (cC _).mono ?_); rintro e w2 ⟨rfl, h9⟩; have h8 := h9.symm; clear h9; subst h8))
          exact finPl rfl rfl rfl rfl hX5 (HA.out _ _ (HR.out _)) ((HW.out _ hbr).trans (hO5.below (Nat.le_refl _) hWs))
        · have d1 : ¬ (i : Int) + 1 ≤ 4 := by omega
          have d2 : ¬ s' = [] := fun e => hend ⟨by omega, e⟩
          have d3 : (s' == []) = false := by rw [beq_eq_false_iff_ne]; exact d2
          have d4 : (s' != []) = true := by rw [bne_iff_ne]; exact d2
          clear d2
          go_wp2_with (first
            | ((with_reducible refine wp_setPl (p' := p0) (v' := .slice none 0 0) hbl rfl (by with_unfolding_all rfl) (by with_unfolding_all rfl) ?_); intro w5 hX5 hO5)
            | (go_at_call 39; (with_reducible refine (cC _).mono ?_); rintro e w2 ⟨rfl, h9⟩; have h8 := h9.symm; clear h9; subst h8))
          exact finPl rfl rfl rfl rfl hX5 (HA.out _ _ (HR.out _)) ((HW.out _ hbr).trans (hO5.below (Nat.le_refl _) hWs))
      · have cC : ∀ w, Calls Tryd.prog 39 #[strV (a ++ 10 :: b), .string ⟨#[10]⟩] w fun e w' => e = .returned (.tuple #[strV a, strV b, .bool true]) ∧ Below w.heap.size w w' := fun w => (cut_yes a b 10 w ha (by omega)).mono fun e w' g => ⟨g.1, by obtain ⟨q, rfl⟩ := g.2; exact Pie.below_drewN (Below.refl _ _) q⟩
        have hal : a.length ≤ 2048 := by simp at hlen; omega
        have cL := fun w2 hS2 (hBM : BdsAt w2 ∧ MlAt w2) => pln_any hrd i (by omega) a (w.heap.size + 1) (w.heap.size + 1) p ts v w2 hS2 hBM.1 hBM.2 hal (by omega)
        cases hz : lineS rd i (p, ts) (pieces 32 a) with
        | none =>
          rw [hz] at cL
          replace cL : ∀ w2, PS w2 63 (w.heap.size + 1) (w.heap.size + 1) p ts v → BdsAt w2 ∧ MlAt w2 → Calls Tryd.prog 40 #[.pointer (some ⟨w.heap.size + 1, 0, none⟩), .int .i64 ((i : Int) + 1), strV a] w2 fun e w' => e = .returned (.bool false) ∧ Below (w.heap.size + 1) w2 w' := cL
          have HR : Hid (∀ w', ReadR (readL rd 0 (p0, []) (pieces 10 s)) (.returned (.tuple #[planV p0 (.slice none 0 0), .int .i64 ((i : Int) + 1), .int .i64 3])) w') := by
            intro w'
            rw [hrd', readL_bad ha hz]
            rfl
          clear hrd' ha hS hgp hz
          by_cases hi4 : i < 4
          · have d1 : (i : Int) + 1 ≤ 4 := by omega
            go_wp2_with (first
              | ((with_reducible refine wp_setPl (p' := p0) (v' := .slice none 0 0) hX3 rfl (by with_unfolding_all rfl) (by with_unfolding_all rfl) ?_); intro w5 hX5 hO5)
              | (go_at_call 39; (with_reducible refine (cC _).mono ?_); rintro e w2 ⟨rfl, hb2⟩; have hw2 : Below (w.heap.size + 1) w1 w2 := hbr.trans (hb2.mono hSN))
              | (go_at_call 40; (with_reducible refine (cL w2 (HS.out.below hb2) (HB.out _ hw2)).mono ?_); rintro e w3 ⟨rfl, hb3⟩; have hw3 := hw2.trans hb3; have hX3 := HX.out _ hw3))
            have hWs3 := (HW.out _ hw3).size
            exact finPl rfl rfl rfl rfl hX5 (HA.out _ _ (HR.out _)) ((HW.out _ hw3).trans (hO5.below (Nat.le_refl _) hWs3))
          · have d1 : ¬ (i : Int) + 1 ≤ 4 := by omega
            have d2 : ¬ (a ++ 10 :: b) = [] := fun e => hend ⟨by omega, e⟩
            have d3 : ((a ++ 10 :: b) == []) = false := by rw [beq_eq_false_iff_ne]; exact d2
            have d4 : ((a ++ 10 :: b) != []) = true := by rw [bne_iff_ne]; exact d2
            clear d2
            go_wp2_with (first
              | ((with_reducible refine wp_setPl (p' := p0) (v' := .slice none 0 0) hX3 rfl (by with_unfolding_all rfl) (by with_unfolding_all rfl) ?_); intro w5 hX5 hO5)
              | (go_at_call 39; (with_reducible refine (cC _).mono ?_); rintro e w2 ⟨rfl, hb2⟩; have hw2 : Below (w.heap.size + 1) w1 w2 := hbr.trans (hb2.mono hSN))
              | (go_at_call 40; (with_reducible refine (cL w2 (HS.out.below hb2) (HB.out _ hw2)).mono ?_); rintro e w3 ⟨rfl, hb3⟩; have hw3 := hw2.trans hb3; have hX3 := HX.out _ hw3))
            have hWs3 := (HW.out _ hw3).size
            exact finPl rfl rfl rfl rfl hX5 (HA.out _ _ (HR.out _)) ((HW.out _ hw3).trans (hO5.below (Nat.le_refl _) hWs3))
        | some st =>
          obtain ⟨p', ts'⟩ := st
          rw [hz] at cL
          replace cL : ∀ w2, PS w2 63 (w.heap.size + 1) (w.heap.size + 1) p ts v → BdsAt w2 ∧ MlAt w2 → Calls Tryd.prog 40 #[.pointer (some ⟨w.heap.size + 1, 0, none⟩), .int .i64 ((i : Int) + 1), strV a] w2 fun e w' => e = .returned (.bool true) ∧ Below (w.heap.size + 1) w2 w' ∧ ∃ v', PS w' 63 (w.heap.size + 1) (w.heap.size + 1) p' ts' v' := cL
          have HR : Hid (readL rd 0 (p0, []) (pieces 10 s) = readL rd (i + 1) (p', ts') (pieces 10 b)) := hrd'.trans (readL_good ha hz)
          have HG : Hid (GoodP p' ∧ ts'.length ≤ ts.length + 1) := line_good hz hgp
          clear hrd' ha hS hgp hz
          by_cases hi4 : i < 4
          · have d1 : (i : Int) + 1 ≤ 4 := by omega
            go_wp2_with (first
              | (go_at_call 39; (with_reducible refine (cC _).mono ?_); rintro e w2 ⟨rfl, hb2⟩; have hw2 : Below (w.heap.size + 1) w1 w2 := hbr.trans (hb2.mono hSN))
              | (go_at_call 40; (with_reducible refine (cL w2 (HS.out.below hb2) (HB.out _ hw2)).mono ?_); rintro e w3 ⟨rfl, hb3, v3, hS3⟩; have hw3 := hw2.trans hb3))
            go_roundw
            case rel => exact ⟨i + 1, p', ts', b, v3, rfl, rfl, HR.out, by simp at hlen; omega, by have := HG.out.2; omega, HG.out.1, hS3, hw3⟩
            case measure => show b.length < (a ++ 10 :: b).length; simp; omega
          · have d1 : ¬ (i : Int) + 1 ≤ 4 := by omega
            have d2 : ¬ (a ++ 10 :: b) = [] := fun e => hend ⟨by omega, e⟩
            have d3 : ((a ++ 10 :: b) == []) = false := by rw [beq_eq_false_iff_ne]; exact d2
            have d4 : ((a ++ 10 :: b) != []) = true := by rw [bne_iff_ne]; exact d2
            clear d2
            go_wp2_with (first
              | (go_at_call 39; (with_reducible refine (cC _).mono ?_); rintro e w2 ⟨rfl, hb2⟩; have hw2 : Below (w.heap.size + 1) w1 w2 := hbr.trans (hb2.mono hSN))
              | (go_at_call 40; (with_reducible refine (cL w2 (HS.out.below hb2) (HB.out _ hw2)).mono ?_); rintro e w3 ⟨rfl, hb3, v3, hS3⟩; have hw3 := hw2.trans hb3))
            go_roundw
            case rel => exact ⟨i + 1, p', ts', b, v3, rfl, rfl, HR.out, by simp at hlen; omega, by have := HG.out.2; omega, HG.out.1, hS3, hw3⟩
            case measure => show b.length < (a ++ 10 :: b).length; simp; omega
/-- what plan.Parse answers -/
theorem pparse_any {rd : List UInt8 → Option K} (hrd : RdOk rd) (s : List UInt8) (w : World) (hB : BdsAt w) (hM : MlAt w) (hl : s.length ≤ 9223372036854775807) :
    Calls Tryd.prog 17 #[strV s] w fun e w' => PlanR rd s e w' ∧ Below w.heap.size w w' := by
  by_cases h : s.length ≤ 2048
  · exact parse_short hrd s w hB hM h
  · exact parse_large rd s w (by omega) hl
end Pln
end Go.Proofs.YtcfncgjpbdkagabDoor
