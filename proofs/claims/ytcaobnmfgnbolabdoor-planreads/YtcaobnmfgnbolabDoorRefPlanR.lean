/- What the document's answer (tideref) reads of a plan's text: ReadPlan. -/
import Derived.Test.YtcaobnmfgnbolabDoorRefLine6
import Derived.Test.YtcaobnmfgnbolabDoorPk23
import Derived.Test.YtcaobnmfgnbolabDoorPlanLaw
namespace Go.Proofs.YtcaobnmfgnbolabDoor
namespace Pln
open Go.RowKit Lai Civ Crn Pie
set_option maxRecDepth 8000
set_option linter.unusedVariables false

theorem finRp {rd : List UInt8 → Option K} {s : List UInt8} {a : Act} {w Wf : World} {R : Nat} {p : Pd} {v : Value} {n E : Int} (hp : a.tmps[2]? = some (.pointer (some ⟨R, 0, none⟩))) (h3 : a.tmps[3]? = some (.int .i64 n)) (h4 : a.tmps[4]? = some (.int .i64 E)) (ha : a.defers = []) (hX : BX Wf R p v) (hA : PlanR rd s (.returned (.tuple #[planV p v, .int .i64 n, .int .i64 E])) Wf) (hb : Below w.heap.size w Wf) :
    bodyPost Tryd.prog Tryd.f19 (fun e w' => PlanR rd s e w' ∧ Below w.heap.size w w') Exit.ret a Wf := by
  refine bodyPost_ret (v := .tuple #[planV p v, .int .i64 n, .int .i64 E]) ?_ ha ⟨hA, hb⟩
  have e2 : a.tmps.getD 2 undef = .pointer (some ⟨R, 0, none⟩) := by rw [Array.getD_eq_getD_getElem?, hp]; rfl
  have e3 : a.tmps.getD 3 undef = .int .i64 n := by rw [Array.getD_eq_getD_getElem?, h3]; rfl
  have e4 : a.tmps.getD 4 undef = .int .i64 E := by rw [Array.getD_eq_getD_getElem?, h4]; rfl
  rw [results_cell2 Tryd.results19, e2, e3, e4]
  have hl := run_loadVar_mid (P := Tryd.prog) Wf R 0 44 _ _ (range_plan (PlAt.of hX.cel)) Tryd.underlying44 rfl (by kernel_rfl)
  simp only [asAddr, Sem.run_pure, Result.andThen_ok, hl]
theorem rread_large (rd : List UInt8 → Option K) (s : List UInt8) (w : World) (h : 2048 < s.length) (h2 : s.length ≤ 9223372036854775807) :
    Calls Tryd.prog 19 #[strV s] w fun e w' => PlanR rd s e w' ∧ Below w.heap.size w w' := by
  have hsz : (⟨s.toArray⟩ : ByteArray).size = s.length := rfl
  have h1 : (2048 : Int) < s.length := by omega
  go_enter Tryd.func19, Tryd.ntmps19
  go_wp2
  exact finRp (R := w.heap.size) (p := p0) (v := .slice none 0 0) rfl rfl rfl rfl ⟨by simp, fun o => by simp [p0], fun o => by simp⟩ (Or.inl ⟨h, rfl⟩) (balloc _)
/-- where ReadPlan stands: i lines are read -/
def RpR (rd : List UInt8 → Option K) (ls : List (List UInt8)) (N : Nat) (w3 : World) (iv : Value) (wr : World) : Prop :=
  ∃ (i : Nat) (p : Pd) (ts : List Tr) (v : Value), iv = .int .i64 i ∧ i + 1 ≤ ls.length ∧ readL rd 0 (p0, []) ls = readL rd i (p, ts) (ls.drop i) ∧ ts.length ≤ i ∧ (GoodP p ∧ ∀ t ∈ ts, TrU t) ∧ PS wr 55 N N p ts v ∧ Below N w3 wr
theorem read_more {rd : List UInt8 → Option K} {ls : List (List UInt8)} {i : Nat} {st : Pd × List Tr} {l : List UInt8} (hl : ls[i]? = some l) (h : i + 1 < ls.length) : readL rd i st (ls.drop i) = match lineS rd i st (pieces 32 l) with
    | some st' => readL rd (i + 1) st' (ls.drop (i + 1))
    | none => .inl (i + 1) := by
  obtain ⟨h1, h2⟩ := List.getElem?_eq_some_iff.1 hl
  rw [List.drop_eq_getElem_cons h1, h2, List.drop_eq_getElem_cons h]
  conv => lhs; unfold readL
  cases lineS rd i st (pieces 32 l) <;> rfl
theorem read_last {rd : List UInt8 → Option K} {ls : List (List UInt8)} {i : Nat} {st : Pd × List Tr} {l : List UInt8} (hl : ls[i]? = some l) (h : i + 1 = ls.length) : readL rd i st (ls.drop i) = if 4 ≤ i ∧ l = [] then .inr st else .inl (i + 1) := by
  obtain ⟨h1, h2⟩ := List.getElem?_eq_some_iff.1 hl
  rw [List.drop_eq_getElem_cons h1, h2, List.drop_of_length_le (by omega)]
  unfold readL
  rfl
set_option maxHeartbeats 4000000 in
theorem rread_short {rd : List UInt8 → Option K} (hrd : RdOk rd) (s : List UInt8) (w : World) (h : s.length ≤ 2048) :
    Calls Tryd.prog 19 #[strV s] w fun e w' => PlanR rd s e w' ∧ Below w.heap.size w w' := by
  have hsz : (⟨s.toArray⟩ : ByteArray).size = s.length := rfl
  have h1 : ¬ (2048 : Int) < s.length := by omega
  obtain ⟨w1, hw1, hX1, hz1, hb1, hPa⟩ := pa_start rd s w 44
  have HA : Hid (∀ e w', ReadR (readL rd 0 (p0, []) (pieces 10 s)) e w' → PlanR rd s e w') := fun e w' g => Or.inr ⟨h, g⟩
  clear hPa
  have cP := rpieces_c s 10 w1 (by omega)
  have hll : (pieces 10 s).length ≤ 2049 := by rw [pieces_len]; have := List.count_le_length (a := (10 : UInt8)) (l := s); omega
  have hl1 : 1 ≤ (pieces 10 s).length := by rw [pieces_len]; omega
  have hsub := pieces_sub 10 s
  generalize pieces 10 s = ls at *
  have HSub : Hid (∀ y ∈ ls, y.length ≤ s.length) := hsub
  have HW1 : Hid (w1 = _) := hw1
  clear hsub hw1
  obtain ⟨n, hn⟩ : ∃ n, ls.length = n + 1 := ⟨ls.length - 1, by omega⟩
  rw [hn] at cP
  replace cP : Calls Tryd.prog 46 #[strV s, .int .u8 10] w1 fun e w' => ∃ B cv, n + 1 ≤ cv ∧ e = .returned (.slice (some ⟨B, 0, none⟩) (n + 1) cv) ∧ w1.heap.size ≤ B ∧ Texts w' B ls ∧ Below w1.heap.size w1 w' := cP
  go_enter Tryd.func19, Tryd.ntmps19
  go_wp2_with (go_at_call 46; rw [← HW1.out]; (with_reducible refine cP.mono ?_); rintro e w2 ⟨B, cv, hcv, rfl, hB1, hT, hb2⟩)
  have hs2 := hb2.size
  have hBl := hT.1
  have hN0 := PS.new w2 55 44
  have hb3 := balloc (w := w2) (.cells (planC p0 (.slice none 0 0)) 44)
  have hP3 : RpR rd ls w2.heap.size w2 (.int .i64 0) (w2.alloc (.cells (planC p0 (.slice none 0 0)) 44)) := ⟨0, p0, [], .slice none 0 0, rfl, by omega, rfl, Nat.le_refl _, ⟨good0, fun t ht => by cases ht⟩, hN0, hb3⟩
  have HP3 : Hid (RpR rd ls w2.heap.size w2 (.int .i64 0) (w2.alloc (.cells (planC p0 (.slice none 0 0)) 44))) := hP3
  have HX : Hid (∀ w', Below w2.heap.size w2 w' → BX w' w.heap.size p0 (.slice none 0 0)) := fun w' g => (hX1.below hb2 (by omega)).below g (by omega)
  have HW : Hid (∀ w', Below w2.heap.size w2 w' → Below w.heap.size w w') := fun w' g => (hb1.trans (hb2.mono hb1.size)).trans (g.mono (by omega))
  have HT : Hid (∀ w', Below w2.heap.size w2 w' → Texts w' B ls) := fun w' g => hT.below g hBl
  have HLn : Hid (ls.length = n + 1) := hn
  clear hP3 hN0 hb3 hX1 hb1 hb2 hT cP hn
  go_loopw [8] (fun iv wr => RpR rd ls w2.heap.size w2 iv wr) (fun iv _ => n + 1 - (intOf iv).toNat)
  case atStart => exact HP3.out
  case round =>
    clear HP3
    obtain ⟨i, p, ts, v, rfl, hi, hread, htl, hgp, hS, hbr⟩ := hrel
    have hi' : i ≤ n := by have := HLn.out; omega
    have hbl := HX.out wr hbr
    have hTr := HT.out wr hbr
    have hSN := hS.nN
    have HS : Hid (PS wr 55 w2.heap.size w2.heap.size p ts v) := hS
    have hWs : w.heap.size ≤ wr.heap.size := (HW.out _ hbr).size
    obtain ⟨l, hl⟩ : ∃ l, ls[i]? = some l := ⟨ls[i]'(by have := HLn.out; omega), List.getElem?_eq_getElem (by have := HLn.out; omega)⟩
    obtain ⟨q, hq⟩ : ∃ q, ls[n]? = some q := ⟨ls[n]'(by have := HLn.out; omega), List.getElem?_eq_getElem (by have := HLn.out; omega)⟩
    have cl := hTr.2 i l hl
    have cq := hTr.2 n q hq
    by_cases hin : i < n
    · have d2 : (i : Int) < n := by omega
      have d3 : ¬ (n : Int) ≤ i := by omega
      have hll2 : l.length ≤ 2048 := Nat.le_trans (HSub.out l (List.mem_of_getElem? hl)) h
      have cQ0 := fun w => rpieces_c l 32 w (by omega)
      have hpl : (pieces 32 l).length ≤ 2049 := by rw [pieces_len]; have := List.count_le_length (a := (32 : UInt8)) (l := l); omega
      have hps : ∀ y ∈ pieces 32 l, y.length ≤ 3000 := fun y hy => Nat.le_trans (pieces_sub 32 l y hy) (by omega)
      have cL0 := fun B4 cv4 w4 hS4 hT4 hB4 hcv4 => rline_any hrd i (by omega) (pieces 32 l) (pieces_ne 32 l) B4 cv4 w2.heap.size w2.heap.size p ts v w4 hS4 (by omega) hT4 hB4 hcv4 (by omega) hps
      have hrm := read_more (rd := rd) (st := (p, ts)) hl (by have := HLn.out; omega)
      rw [← hread] at hrm
      have hSl := hS.lt
      cases hz : lineS rd i (p, ts) (pieces 32 l) with
      | none =>
        rw [hz] at cL0 hrm
        have HR : Hid (∀ w', ReadR (readL rd 0 (p0, []) ls) (.returned (.tuple #[planV p0 (.slice none 0 0), .int .i64 ((i : Int) + 1), .int .i64 3])) w') := by
          intro w'
          rw [hrm]
          rfl
        generalize pieces 32 l = PL at *
        have cQ : ∀ w, Calls Tryd.prog 46 #[strV l, .int .u8 32] w fun e w' => ∃ B cv, PL.length ≤ cv ∧ e = .returned (.slice (some ⟨B, 0, none⟩) PL.length cv) ∧ w.heap.size ≤ B ∧ Texts w' B PL ∧ Below w.heap.size w w' := cQ0
        have cL : ∀ B4 cv4 w4, PS w4 55 w2.heap.size w2.heap.size p ts v → TxAt w4 B4 0 PL → B4 ≠ w2.heap.size → PL.length ≤ cv4 → Calls Tryd.prog 47 #[.pointer (some ⟨w2.heap.size, 0, none⟩), .int .i64 i, .slice (some ⟨B4, 0, none⟩) PL.length cv4] w4 fun e w' => e = .returned (.bool false) ∧ Below w2.heap.size w4 w' := cL0
        clear hread hl hq hgp hS hz hrm cQ0 cL0 hps cq
        by_cases hi4 : i < 4
        · have d1 : (i : Int) < 4 := by omega
          go_wp2_with (first
            | ((with_reducible refine wp_setPl (p' := p0) (v' := .slice none 0 0) hX3 rfl (by with_unfolding_all rfl) (by with_unfolding_all rfl) ?_); intro w5 hX5 hO5)
            | (go_at_call 46; (with_reducible refine (cQ wr).mono ?_); rintro e w4 ⟨B4, cv4, hcv4, rfl, hB4, hT4, hb4⟩; have hw4 : Below w2.heap.size w2 w4 := hbr.trans (hb4.mono hSN))
            | (go_at_call 47; (with_reducible refine (cL B4 cv4 w4 (HS.out.below hb4) (TxAt.of hT4) (by omega) hcv4).mono ?_); rintro e w3 ⟨rfl, hb3⟩; have hw3 := hw4.trans hb3; have hX3 := HX.out _ hw3))
          have hWs3 := (HW.out _ hw3).size
          exact finRp rfl rfl rfl rfl hX5 (HA.out _ _ (HR.out _)) ((HW.out _ hw3).trans (hO5.below (Nat.le_refl _) hWs3))
        · have d1 : ¬ (i : Int) < 4 := by omega
          go_wp2_with (first
            | ((with_reducible refine wp_setPl (p' := p0) (v' := .slice none 0 0) hX3 rfl (by with_unfolding_all rfl) (by with_unfolding_all rfl) ?_); intro w5 hX5 hO5)
            | (go_at_call 46; (with_reducible refine (cQ wr).mono ?_); rintro e w4 ⟨B4, cv4, hcv4, rfl, hB4, hT4, hb4⟩; have hw4 : Below w2.heap.size w2 w4 := hbr.trans (hb4.mono hSN))
            | (go_at_call 47; (with_reducible refine (cL B4 cv4 w4 (HS.out.below hb4) (TxAt.of hT4) (by omega) hcv4).mono ?_); rintro e w3 ⟨rfl, hb3⟩; have hw3 := hw4.trans hb3; have hX3 := HX.out _ hw3))
          have hWs3 := (HW.out _ hw3).size
          exact finRp rfl rfl rfl rfl hX5 (HA.out _ _ (HR.out _)) ((HW.out _ hw3).trans (hO5.below (Nat.le_refl _) hWs3))
      | some st =>
        obtain ⟨p', ts'⟩ := st
        rw [hz] at cL0 hrm
        have HR : Hid (readL rd 0 (p0, []) ls = readL rd (i + 1) (p', ts') (ls.drop (i + 1))) := hrm
        have HG : Hid ((GoodP p' ∧ ts'.length ≤ ts.length + 1) ∧ ∀ t ∈ ts', TrU t) := ⟨line_good hz hgp.1, line_tr (fun s c h => (hrd.yes s c h).1) hz hgp.2⟩
        generalize pieces 32 l = PL at *
        have cQ : ∀ w, Calls Tryd.prog 46 #[strV l, .int .u8 32] w fun e w' => ∃ B cv, PL.length ≤ cv ∧ e = .returned (.slice (some ⟨B, 0, none⟩) PL.length cv) ∧ w.heap.size ≤ B ∧ Texts w' B PL ∧ Below w.heap.size w w' := cQ0
        have cL : ∀ B4 cv4 w4, PS w4 55 w2.heap.size w2.heap.size p ts v → TxAt w4 B4 0 PL → B4 ≠ w2.heap.size → PL.length ≤ cv4 → Calls Tryd.prog 47 #[.pointer (some ⟨w2.heap.size, 0, none⟩), .int .i64 i, .slice (some ⟨B4, 0, none⟩) PL.length cv4] w4 fun e w' => e = .returned (.bool true) ∧ Below w2.heap.size w4 w' ∧ ∃ v', PS w' 55 w2.heap.size w2.heap.size p' ts' v' := cL0
        clear hread hl hq hgp hS hz hrm cQ0 cL0 hps cq
        by_cases hi4 : i < 4
        · have d1 : (i : Int) < 4 := by omega
          go_wp2_with (first
            | (go_at_call 46; (with_reducible refine (cQ wr).mono ?_); rintro e w4 ⟨B4, cv4, hcv4, rfl, hB4, hT4, hb4⟩; have hw4 : Below w2.heap.size w2 w4 := hbr.trans (hb4.mono hSN))
            | (go_at_call 47; (with_reducible refine (cL B4 cv4 w4 (HS.out.below hb4) (TxAt.of hT4) (by omega) hcv4).mono ?_); rintro e w3 ⟨rfl, hb3, v3, hS3⟩; have hw3 := hw4.trans hb3))
          go_roundw
          case rel => exact ⟨i + 1, p', ts', v3, rfl, by have := HLn.out; omega, HR.out, by have := HG.out.1.2; omega, ⟨HG.out.1.1, HG.out.2⟩, hS3, hw3⟩
          case measure => simp [intOf]; omega
        · have d1 : ¬ (i : Int) < 4 := by omega
          go_wp2_with (first
            | (go_at_call 46; (with_reducible refine (cQ wr).mono ?_); rintro e w4 ⟨B4, cv4, hcv4, rfl, hB4, hT4, hb4⟩; have hw4 : Below w2.heap.size w2 w4 := hbr.trans (hb4.mono hSN))
            | (go_at_call 47; (with_reducible refine (cL B4 cv4 w4 (HS.out.below hb4) (TxAt.of hT4) (by omega) hcv4).mono ?_); rintro e w3 ⟨rfl, hb3, v3, hS3⟩; have hw3 := hw4.trans hb3))
          go_roundw
          case rel => exact ⟨i + 1, p', ts', v3, rfl, by have := HLn.out; omega, HR.out, by have := HG.out.1.2; omega, ⟨HG.out.1.1, HG.out.2⟩, hS3, hw3⟩
          case measure => simp [intOf]; omega
    · obtain rfl : i = n := by omega
      have elq : l = q := by rw [hl] at hq; exact Option.some.inj hq
      subst elq
      by_cases hend : 4 ≤ i ∧ l = []
      · have HR : Hid (readL rd 0 (p0, []) ls = .inr (p, ts)) := by
          unfold Hid
          rw [hread, read_last hl HLn.out.symm, if_pos hend]
        obtain ⟨h4, rfl⟩ := hend
        have d1 : ¬ (i : Int) < 4 := by omega
        obtain ⟨ao, cap, rfl, hc1, hc2, hTs⟩ := hS.form
        have cK := rplan_any p ts ao cap wr (by have := hgp.1.2; omega) hTs hgp.2
        have hA := hS.plat
        clear hread hl hq hgp hTs hS
        by_cases hE : chkP p ts = 0
        · rw [hE] at cK
          have HE : Hid (chkP p ts = 0) := hE
          clear hE
          go_wp2_with (first
            | (with_reducible refine wp_plan hA (by with_unfolding_all rfl) ?_)
            | (with_reducible refine wp_plan hA3 (by with_unfolding_all rfl) ?_)
            | ((with_reducible refine wp_setPl (p' := p) (v' := .slice ao ts.length cap) hX3 rfl (by with_unfolding_all rfl) (by with_unfolding_all rfl) ?_); intro w5 hX5 hO5)
            | (go_at_call 14; (with_reducible refine cK.mono ?_); rintro e w3 ⟨rfl, hb3⟩; have hw3 : Below w2.heap.size w2 w3 := hbr.trans (hb3.mono hSN); have hX3 := HX.out _ hw3; have hA3 := (HS.out.below hb3).plat))
          have hWs3 := (HW.out _ hw3).size
          have hS5 := (HS.out.below hb3).other hO5 (by omega)
          obtain ⟨ao', cap', hv, hc1', hc2', hTr'⟩ := hS5.form
          simp only [Value.slice.injEq] at hv
          obtain ⟨rfl, _, rfl⟩ := hv
          exact finRp rfl rfl rfl rfl hX5 (HA.out _ _ (by rw [HR.out]; exact Or.inr ⟨HE.out, _, _, rfl, hTr', hc1', hc2'⟩)) ((HW.out _ hw3).trans (hO5.below (Nat.le_refl _) hWs3))
        · have HE : Hid (chkP p ts ≠ 0) := hE
          generalize hEE : chkP p ts = E at cK
          have HEE : Hid (chkP p ts = E) := hEE
          have hE2 : (E != 0) = true := by rw [bne_iff_ne]; rw [← hEE]; exact hE
          have hE3 : ¬ E = 0 := by rw [← hEE]; exact hE
          clear hE hEE
          go_wp2_with (first
            | (with_reducible refine wp_plan hA (by with_unfolding_all rfl) ?_)
            | ((with_reducible refine wp_setPl (p' := p0) (v' := .slice none 0 0) hX3 rfl (by with_unfolding_all rfl) (by with_unfolding_all rfl) ?_); intro w5 hX5 hO5)
            | (go_at_call 14; (with_reducible refine cK.mono ?_); rintro e w3 ⟨rfl, hb3⟩; have hw3 : Below w2.heap.size w2 w3 := hbr.trans (hb3.mono hSN); have hX3 := HX.out _ hw3))
          have hWs3 := (HW.out _ hw3).size
          exact finRp rfl rfl rfl rfl hX5 (HA.out _ _ (by rw [HR.out]; exact Or.inl ⟨HE.out, by rw [HEE.out]; rfl⟩)) ((HW.out _ hw3).trans (hO5.below (Nat.le_refl _) hWs3))
      · have HR : Hid (∀ w', ReadR (readL rd 0 (p0, []) ls) (.returned (.tuple #[planV p0 (.slice none 0 0), .int .i64 ((i : Int) + 1), .int .i64 3])) w') := by
          intro w'
          rw [hread, read_last hl HLn.out.symm, if_neg hend]
          rfl
        by_cases hi4 : i < 4
        · have d1 : (i : Int) < 4 := by omega
          clear hread hl hq hgp hS
          go_wp2_with ((with_reducible refine wp_setPl (p' := p0) (v' := .slice none 0 0) hbl rfl (by with_unfolding_all rfl) (by with_unfolding_all rfl) ?_); intro w5 hX5 hO5)
          exact finRp rfl rfl rfl rfl hX5 (HA.out _ _ (HR.out _)) ((HW.out _ hbr).trans (hO5.below (Nat.le_refl _) hWs))
        · have d1 : ¬ (i : Int) < 4 := by omega
          have d5 : ¬ l = [] := fun e => hend ⟨by omega, e⟩
          have d6 : (l == []) = false := by rw [beq_eq_false_iff_ne]; exact d5
          have d7 : (l != []) = true := by rw [bne_iff_ne]; exact d5
          clear hread hl hq hgp hS d5 hend
          go_wp2_with ((with_reducible refine wp_setPl (p' := p0) (v' := .slice none 0 0) hbl rfl (by with_unfolding_all rfl) (by with_unfolding_all rfl) ?_); intro w5 hX5 hO5)
          exact finRp rfl rfl rfl rfl hX5 (HA.out _ _ (HR.out _)) ((HW.out _ hbr).trans (hO5.below (Nat.le_refl _) hWs))
theorem rread_any {rd : List UInt8 → Option K} (hrd : RdOk rd) (s : List UInt8) (w : World) (hl : s.length ≤ 9223372036854775807) :
    Calls Tryd.prog 19 #[strV s] w fun e w' => PlanR rd s e w' ∧ Below w.heap.size w w' := by
  by_cases h : s.length ≤ 2048
  · exact rread_short hrd s w h
  · exact rread_large rd s w (by omega) hl
end Pln
end Go.Proofs.YtcaobnmfgnbolabDoor
