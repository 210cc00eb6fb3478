/- What plan.Parse answers, of every text. What plan.Parse answers, of every text: the loop. -/
import Derived.Test.YtcaobnmfgnbolabDoorPk19
import Derived.Test.YtcaobnmfgnbolabDoorPk8
import Derived.Laws.ResultCell
namespace Go.Proofs.YtcaobnmfgnbolabDoor
namespace Pln
open Go.RowKit Lai Civ Crn Pie
set_option maxRecDepth 8000

/-- a line of a plan's text -/
theorem pln_any {rd : List UInt8 → Option K} (hrd : RdOk rd) (i : Nat) (hi2 : i ≤ 10000) (text : List UInt8) (N Q : Nat) (p : Pd) (ts : List Tr) (v : Value) (w : World) (hS : PS w 55 N Q p ts v) (hB : BdsAt w) (hM : MlAt w) (ht : text.length ≤ 2048) (hts : ts.length ≤ 10000) :
    Calls Tryd.prog 45 #[.pointer (some ⟨Q, 0, none⟩), .int .i64 ((i : Int) + 1), strV text] w fun e w' => LineR 55 N Q w (lineS rd i (p, ts) (pieces 32 text)) e w' := by
  match i with
  | 0 => exact pln0 rd text N Q p ts v w hS ht
  | 1 => exact pln1 rd text N Q p ts v w hS ht
  | 2 => exact pln2 rd text N Q p ts v w hS ht
  | 3 => exact pln3 rd text N Q p ts v w hS ht
  | i + 4 => exact pln4 hrd (i + 4) (by omega) hi2 text N Q p ts v w hS hB hM ht hts
theorem PS.plat {w : World} {e : TypeId} {N Q : Nat} {p : Pd} {ts : List Tr} {v : Value} (h : PS w e N Q p ts v) : PlAt w Q p v := PlAt.of h.cel
/-- another block has turned -/
theorem PS.other {w w' : World} {e : TypeId} {N Q R : Nat} {p : Pd} {ts : List Tr} {v : Value} (h : PS w e N Q p ts v) (o : OnlyQ R w w') (hR : R < N) : PS w' e N Q p ts v := by
  have hQ : w'.heap[Q]? = w.heap[Q]? := o.block Q h.lt (by have := h.bQ; omega)
  exact ⟨Nat.lt_of_lt_of_le h.lt o.size, h.bQ, fun j => (World.cell?_of_block (w := w) (a := ⟨Q, j, none⟩) hQ).trans (h.cel j), fun j => (World.frozen?_of_block (w := w) (a := ⟨Q, j, none⟩) hQ).trans (h.fz j), owns_blockT h.own (fun g hg => o.block g (h.own.lt g hg).2 (by have := (h.own.lt g hg).1; omega)), h.ne⟩
/-- a plan in a block of its own -/
structure BX (w : World) (R : Nat) (p : Pd) (v : Value) : Prop where
  lt : R < w.heap.size
  cel : ∀ o, w.cell? ⟨R, o, none⟩ = (planC p v)[o]?
  fz : ∀ o, w.frozen? ⟨R, o, none⟩ = false
theorem BX.below {w w' : World} {R n : Nat} {p : Pd} {v : Value} (h : BX w R p v) (hb : Below n w w') (hn : R < n) : BX w' R p v :=
  ⟨Nat.lt_of_lt_of_le h.lt hb.size, fun o => (World.cell?_of_block (w := w) (a := ⟨R, o, none⟩) (hb.block R hn)).trans (h.cel o), fun o => (World.frozen?_of_block (w := w) (a := ⟨R, o, none⟩) (hb.block R hn)).trans (h.fz o)⟩
theorem BX.again {w : World} {R : Nat} {p p' : Pd} {v v' : Value} (h : BX w R p v) : BX (w.setCells R 0 (planC p' v').toList) R p' v' := by
  have o := OnlyQ.sets R (planC p' v').toList w 0
  refine ⟨Nat.lt_of_lt_of_le h.lt o.size, ?_, fun j => (o.fz j).trans (h.fz j)⟩
  have e : setRow (planC p v) 0 (planC p' v').toList = planC p' v' := by simp [setRow]
  have := cells_sets (planC p' v').toList 0 h.cel (by simp)
  rw [e] at this
  exact this
/-- a plan is laid into a block, by one step of a walk -/
theorem wp_setPl {ops : Array Oper} {rest : List Oper} {x y : Operand} {ps : String} {af : Array Edge} {A : Act} {Q : Exit → Act → World → Prop} {w : World} {R : Nat} {p p' : Pd} {v v' : Value} (h : BX w R p v) (hv : v'.oneCell' = true) (hx : A.eval x = .pointer (some ⟨R, 0, none⟩)) (hy : A.eval y = planV p' v')
    (g : ∀ w', BX w' R p' v' → OnlyQ R w w' → wpList Tryd.prog ops Q rest (A.put none undef) w') :
    wpList Tryd.prog ops Q ({ dst := none, op := .store 44 x y, type := 0, pos := ps, after := af, guard := none } :: rest) A w :=
  wpList_store_mid rfl 44 x y rfl R 0 (planC p' v') hx hy (fun j hj => ⟨by rw [h.cel]; simp at hj ⊢; omega, h.fz _⟩) (by kernel_rfl) (by simp [Value.oneCell']; exact hv) (g _ h.again (OnlyQ.sets R _ _ _))
theorem results_cell2 {fn : Func} {p u x : Tmp} {ty : TypeId} (h : fn.results = #[.cell p ty, .tmp u, .tmp x]) (tmps : Array Value) (P : Program) (w : World) :
    (results fn tmps).run P w = ((asAddr (tmps.getD p undef)).run P w).andThen fun a w₁ => ((loadVar ty a).run P w₁).andThen fun v w₂ => .ok (.tuple #[v, tmps.getD u undef, tmps.getD x undef]) w₂ := by
  simp only [results, h]
  simp [Sem.run_bind, Result.andThen]
theorem finPl {rd : List UInt8 → Option K} {s : List UInt8} {a : Act} {w Wf : World} {R : Nat} {p : Pd} {v : Value} {n E : Int} (hp : a.tmps[2]? = some (.pointer (some ⟨R, 0, none⟩))) (h3 : a.tmps[3]? = some (.int .i64 n)) (h4 : a.tmps[4]? = some (.int .i64 E)) (ha : a.defers = []) (hX : BX Wf R p v) (hA : PlanR rd s (.returned (.tuple #[planV p v, .int .i64 n, .int .i64 E])) Wf) (hb : Below w.heap.size w Wf) :
    bodyPost Tryd.prog Tryd.f18 (fun e w' => PlanR rd s e w' ∧ Below w.heap.size w w') Exit.ret a Wf := by
  refine bodyPost_ret (v := .tuple #[planV p v, .int .i64 n, .int .i64 E]) ?_ ha ⟨hA, hb⟩
  have e2 : a.tmps.getD 2 undef = .pointer (some ⟨R, 0, none⟩) := by rw [Array.getD_eq_getD_getElem?, hp]; rfl
  have e3 : a.tmps.getD 3 undef = .int .i64 n := by rw [Array.getD_eq_getD_getElem?, h3]; rfl
  have e4 : a.tmps.getD 4 undef = .int .i64 E := by rw [Array.getD_eq_getD_getElem?, h4]; rfl
  rw [results_cell2 Tryd.results18, e2, e3, e4]
  have hl := run_loadVar_mid (P := Tryd.prog) Wf R 0 44 _ _ (range_plan (PlAt.of hX.cel)) Tryd.underlying44 rfl (by kernel_rfl)
  simp only [asAddr, Sem.run_pure, Result.andThen_ok, hl]
/-- where Parse stands: i lines are read -/
def PaR (rd : List UInt8 → Option K) (s : List UInt8) (w w1 : World) (sv lv : Value) (wr : World) : Prop :=
  ∃ (i : Nat) (p : Pd) (ts : List Tr) (s' : List UInt8) (v : Value), sv = strV s' ∧ lv = .int .i64 ((i : Int) + 1) ∧ readL rd 0 (p0, []) (pieces 10 s) = readL rd i (p, ts) (pieces 10 s') ∧ s'.length + i ≤ s.length ∧ ts.length ≤ i ∧ GoodP p ∧ PS wr 55 (w.heap.size + 1) (w.heap.size + 1) p ts v ∧ Below (w.heap.size + 1) w1 wr
def strLen : Value → Nat
  | .string b => b.size
  | _ => 0
theorem parse_large (rd : List UInt8 → Option K) (s : List UInt8) (w : World) (h : 2048 < s.length) (h2 : s.length ≤ 9223372036854775807) :
    Calls Tryd.prog 18 #[strV s] w fun e w' => PlanR rd s e w' ∧ Below w.heap.size w w' := by
  have hsz : (⟨s.toArray⟩ : ByteArray).size = s.length := rfl
  have h1 : (2048 : Int) < s.length := by omega
  go_enter Tryd.func18, Tryd.ntmps18
  go_wp2
  exact finPl (R := w.heap.size) (p := p0) (v := .slice none 0 0) rfl rfl rfl rfl ⟨by simp, fun o => by simp [p0], fun o => by simp⟩ (Or.inl ⟨h, rfl⟩) (balloc _)
/-- the beginning of the loop: the block of the answer, the plan -/
theorem pa_start (rd : List UInt8 → Option K) (s : List UInt8) (w : World) (ta : TypeId) : ∃ w1, w1 = w.alloc (.cells #[.string ⟨#[]⟩, .int .i64 0, .int .i64 0, .int .i64 0, .int .i64 0, .int .i64 0, .int .i64 0, .int .i64 0, .int .i64 0, .int .i64 0, .int .i64 0, .int .i64 0, .int .i64 0, .int .i64 0, .int .i64 0, .int .i64 0, .int .i64 0, .slice none 0 0] ta) ∧ BX w1 w.heap.size p0 (.slice none 0 0) ∧ w1.heap.size = w.heap.size + 1 ∧ Below w.heap.size w w1 ∧ PaR rd s w w1 (strV s) (.int .i64 1) (w1.alloc (.cells #[.string ⟨#[]⟩, .int .i64 0, .int .i64 0, .int .i64 0, .int .i64 0, .int .i64 0, .int .i64 0, .int .i64 0, .int .i64 0, .int .i64 0, .int .i64 0, .int .i64 0, .int .i64 0, .int .i64 0, .int .i64 0, .int .i64 0, .int .i64 0, .slice none 0 0] ta)) := by
  have hX : BX (w.alloc (.cells (planC p0 (.slice none 0 0)) ta)) w.heap.size p0 (.slice none 0 0) := ⟨by simp, fun o => by simp, fun o => by simp⟩
  have hz : (w.alloc (.cells (planC p0 (.slice none 0 0)) ta)).heap.size = w.heap.size + 1 := by simp
  refine ⟨_, rfl, hX, hz, balloc _, 0, p0, [], s, .slice none 0 0, rfl, rfl, rfl, by omega, Nat.le_refl _, good0, ?_, ?_⟩
  · have := PS.new (w.alloc (.cells (planC p0 (.slice none 0 0)) ta)) 55 ta
    rw [hz] at this
    exact this
  · have := balloc (w := w.alloc (.cells (planC p0 (.slice none 0 0)) ta)) (.cells (planC p0 (.slice none 0 0)) ta)
    rw [hz] at this
    exact this
end Pln
end Go.Proofs.YtcaobnmfgnbolabDoor
namespace Go.Proofs.YtcaobnmfgnbolabDoor
namespace Pln
open Go.RowKit Lai Civ Crn Pie
set_option maxRecDepth 8000

set_option maxHeartbeats 4000000 in
theorem parse_short {rd : List UInt8 → Option K} (hrd : RdOk rd) (s : List UInt8) (w : World) (hB : BdsAt w) (hM : MlAt w) (h : s.length ≤ 2048) :
    Calls Tryd.prog 18 #[strV s] w fun e w' => PlanR rd s e w' ∧ Below w.heap.size w w' := by
  have hsz : (⟨s.toArray⟩ : ByteArray).size = s.length := rfl
  have h1 : ¬ (2048 : Int) < s.length := by omega
  obtain ⟨w1, hw1, hX1, hz1, hb1, hP1⟩ := pa_start rd s w 44
  have HA : Hid (∀ e w', ReadR (readL rd 0 (p0, []) (pieces 10 s)) e w' → PlanR rd s e w') := fun e w' g => Or.inr ⟨h, g⟩
  have HB : Hid (∀ w', Below (w.heap.size + 1) w1 w' → BdsAt w' ∧ MlAt w') := fun w' g => ⟨(hB.below hb1 (Nat.le_refl _)).below g (by omega), (hM.below hb1 (Nat.le_refl _)).below g (by omega)⟩
  have HX : Hid (∀ w', Below (w.heap.size + 1) w1 w' → BX w' w.heap.size p0 (.slice none 0 0)) := fun w' g => hX1.below g (by omega)
  have HW : Hid (∀ w', Below (w.heap.size + 1) w1 w' → Below w.heap.size w w') := fun w' g => hb1.trans (g.mono (by omega))
  have HP1 : Hid (PaR rd s w w1 (strV s) (.int .i64 1) _) := hP1
  clear hB hM hX1 hb1 hP1
  go_enter Tryd.func18, Tryd.ntmps18
  go_wp2
  rw [← hw1]
  go_loopw [0, 6] (fun sv lv wr => PaR rd s w w1 sv lv wr) (fun sv _ _ => strLen sv)
  case atStart => exact HP1.out
  case round =>
    clear HP1
    obtain ⟨i, p, ts, s', v, rfl, rfl, hrd', hlen, htl, hgp, hS, hbr⟩ := hrel
    have hs' : (⟨s'.toArray⟩ : ByteArray).size = s'.length := rfl
    have hbl := HX.out wr hbr
    have hSN := hS.nN
    have hWs : w.heap.size ≤ wr.heap.size := by omega
    have HS : Hid (PS wr 55 (w.heap.size + 1) (w.heap.size + 1) p ts v) := hS
    have hgi : (i : Int) ≤ 2048 := by omega
    by_cases hend : 4 ≤ i ∧ s' = []
    · obtain ⟨h4, rfl⟩ := hend
      have d1 : ¬ (i : Int) + 1 ≤ 4 := by omega
      have HR : Hid (readL rd 0 (p0, []) (pieces 10 s) = .inr (p, ts)) := hrd'.trans (readL_stop h4)
      obtain ⟨ao, cap, rfl, hc1, hc2, hTr⟩ := hS.form
      have cK := check_any p ts ao cap wr (HB.out _ hbr).1 hgp.1 (by have := hgp.2; omega) hTr
      have hA := hS.plat
      clear hrd' hgp hTr hS
      by_cases hE : chkP p ts = 0
      · rw [hE] at cK
        have HE : Hid (chkP p ts = 0) := hE
        clear hE
        go_wp2_with (first
          | (with_reducible refine wp_plan hA (by with_unfolding_all rfl) ?_)
          | (with_reducible refine wp_plan hA3 (by with_unfolding_all rfl) ?_)
          | ((with_reducible refine wp_setPl (p' := p) (v' := .slice ao ts.length cap) hX3 rfl (by with_unfolding_all rfl) (by with_unfolding_all rfl) ?_); intro w5 hX5 hO5)
          | (go_at_call 17; (with_reducible refine cK.mono ?_); rintro e w3 ⟨rfl, hb3⟩; have hw3 : Below (w.heap.size + 1) w1 w3 := hbr.trans (hb3.mono hSN); have hX3 := HX.out _ hw3; have hA3 := (HS.out.below hb3).plat))
        have hWs3 := (HW.out _ hw3).size
        have hS5 := (HS.out.below hb3).other hO5 (by omega)
        obtain ⟨ao', cap', hv, hc1', hc2', hTr'⟩ := hS5.form
        simp only [Value.slice.injEq] at hv
        obtain ⟨rfl, _, rfl⟩ := hv
        exact finPl rfl rfl rfl rfl hX5 (HA.out _ _ (by rw [HR.out]; exact Or.inr ⟨HE.out, _, _, rfl, hTr', hc1', hc2'⟩)) ((HW.out _ hw3).trans (hO5.below (Nat.le_refl _) hWs3))
      · have HE : Hid (chkP p ts ≠ 0) := hE
        generalize hEE : chkP p ts = E at cK
        have HEE : Hid (chkP p ts = E) := hEE
        have hE2 : (E != 0) = true := by rw [bne_iff_ne]; rw [← hEE]; exact hE
        have hE3 : ¬ E = 0 := by rw [← hEE]; exact hE
        clear hE hEE
        go_wp2_with (first
          | (with_reducible refine wp_plan hA (by with_unfolding_all rfl) ?_)
          | ((with_reducible refine wp_setPl (p' := p0) (v' := .slice none 0 0) hX3 rfl (by with_unfolding_all rfl) (by with_unfolding_all rfl) ?_); intro w5 hX5 hO5)
          | (go_at_call 17; (with_reducible refine cK.mono ?_); rintro e w3 ⟨rfl, hb3⟩; have hw3 : Below (w.heap.size + 1) w1 w3 := hbr.trans (hb3.mono hSN); have hX3 := HX.out _ hw3))
        have hWs3 := (HW.out _ hw3).size
        exact finPl rfl rfl rfl rfl hX5 (HA.out _ _ (by rw [HR.out]; exact Or.inl ⟨HE.out, by rw [HEE.out]; rfl⟩)) ((HW.out _ hw3).trans (hO5.below (Nat.le_refl _) hWs3))
    · rcases cut_cases 10 s' with hno | ⟨a, b, rfl, ha⟩
      · have cC := fun w => cut_no s' 10 w hno
        have HR : Hid (∀ w', ReadR (readL rd 0 (p0, []) (pieces 10 s)) (.returned (.tuple #[planV p0 (.slice none 0 0), .int .i64 ((i : Int) + 1), .int .i64 3])) w') := by
          intro w'
          rw [hrd', readL_none hno hend]
          rfl
        clear hrd' hno hS hgp
        by_cases hi4 : i < 4
        · have d1 : (i : Int) + 1 ≤ 4 := by omega
          go_wp2_with (first
            | ((with_reducible refine wp_setPl (p' := p0) (v' := .slice none 0 0) hbl rfl (by with_unfolding_all rfl) (by with_unfolding_all rfl) ?_); intro w5 hX5 hO5)
            | (go_at_call 44; (with_reducible refine (cC _).mono ?_); rintro e w2 ⟨rfl, h9⟩; have h8 := h9.symm; clear h9; subst h8))
          exact finPl rfl rfl rfl rfl hX5 (HA.out _ _ (HR.out _)) ((HW.out _ hbr).trans (hO5.below (Nat.le_refl _) hWs))
        · have d1 : ¬ (i : Int) + 1 ≤ 4 := by omega
          have d2 : ¬ s' = [] := fun e => hend ⟨by omega, e⟩
          have d3 : (s' == []) = false := by rw [beq_eq_false_iff_ne]; exact d2
          have d4 : (s' != []) = true := by rw [bne_iff_ne]; exact d2
          clear d2
          go_wp2_with (first
            | ((with_reducible refine wp_setPl (p' := p0) (v' := .slice none 0 0) hbl rfl (by with_unfolding_all rfl) (by with_unfolding_all rfl) ?_); intro w5 hX5 hO5)
            | (go_at_call 44; (with_reducible refine (cC _).mono ?_); rintro e w2 ⟨rfl, h9⟩; have h8 := h9.symm; clear h9; subst h8))
          exact finPl rfl rfl rfl rfl hX5 (HA.out _ _ (HR.out _)) ((HW.out _ hbr).trans (hO5.below (Nat.le_refl _) hWs))
      · have cC : ∀ w, Calls Tryd.prog 44 #[strV (a ++ 10 :: b), .string ⟨#[10]⟩] w fun e w' => e = .returned (.tuple #[strV a, strV b, .bool true]) ∧ Below w.heap.size w w' := fun w => (cut_yes a b 10 w ha (by omega)).mono fun e w' g => ⟨g.1, by obtain ⟨q, rfl⟩ := g.2; exact Pie.below_drewN (Below.refl _ _) q⟩
        have hal : a.length ≤ 2048 := by simp at hlen; omega
        have cL := fun w2 hS2 (hBM : BdsAt w2 ∧ MlAt w2) => pln_any hrd i (by omega) a (w.heap.size + 1) (w.heap.size + 1) p ts v w2 hS2 hBM.1 hBM.2 hal (by omega)
        cases hz : lineS rd i (p, ts) (pieces 32 a) with
        | none =>
          rw [hz] at cL
          replace cL : ∀ w2, PS w2 55 (w.heap.size + 1) (w.heap.size + 1) p ts v → BdsAt w2 ∧ MlAt w2 → Calls Tryd.prog 45 #[.pointer (some ⟨w.heap.size + 1, 0, none⟩), .int .i64 ((i : Int) + 1), strV a] w2 fun e w' => e = .returned (.bool false) ∧ Below (w.heap.size + 1) w2 w' := cL
          have HR : Hid (∀ w', ReadR (readL rd 0 (p0, []) (pieces 10 s)) (.returned (.tuple #[planV p0 (.slice none 0 0), .int .i64 ((i : Int) + 1), .int .i64 3])) w') := by
            intro w'
            rw [hrd', readL_bad ha hz]
            rfl
          clear hrd' ha hS hgp hz
          by_cases hi4 : i < 4
          · have d1 : (i : Int) + 1 ≤ 4 := by omega
            go_wp2_with (first
              | ((with_reducible refine wp_setPl (p' := p0) (v' := .slice none 0 0) hX3 rfl (by with_unfolding_all rfl) (by with_unfolding_all rfl) ?_); intro w5 hX5 hO5)
              | (go_at_call 44; (with_reducible refine (cC _).mono ?_); rintro e w2 ⟨rfl, hb2⟩; have hw2 : Below (w.heap.size + 1) w1 w2 := hbr.trans (hb2.mono hSN))
              | (go_at_call 45; (with_reducible refine (cL w2 (HS.out.below hb2) (HB.out _ hw2)).mono ?_); rintro e w3 ⟨rfl, hb3⟩; have hw3 := hw2.trans hb3; have hX3 := HX.out _ hw3))
            have hWs3 := (HW.out _ hw3).size
            exact finPl rfl rfl rfl rfl hX5 (HA.out _ _ (HR.out _)) ((HW.out _ hw3).trans (hO5.below (Nat.le_refl _) hWs3))
          · have d1 : ¬ (i : Int) + 1 ≤ 4 := by omega
            have d2 : ¬ (a ++ 10 :: b) = [] := fun e => hend ⟨by omega, e⟩
            have d3 : ((a ++ 10 :: b) == []) = false := by rw [beq_eq_false_iff_ne]; exact d2
            have d4 : ((a ++ 10 :: b) != []) = true := by rw [bne_iff_ne]; exact d2
            clear d2
            go_wp2_with (first
              | ((with_reducible refine wp_setPl (p' := p0) (v' := .slice none 0 0) hX3 rfl (by with_unfolding_all rfl) (by with_unfolding_all rfl) ?_); intro w5 hX5 hO5)
              | (go_at_call 44; (with_reducible refine (cC _).mono ?_); rintro e w2 ⟨rfl, hb2⟩; have hw2 : Below (w.heap.size + 1) w1 w2 := hbr.trans (hb2.mono hSN))
              | (go_at_call 45; (with_reducible refine (cL w2 (HS.out.below hb2) (HB.out _ hw2)).mono ?_); rintro e w3 ⟨rfl, hb3⟩; have hw3 := hw2.trans hb3; have hX3 := HX.out _ hw3))
            have hWs3 := (HW.out _ hw3).size
            exact finPl rfl rfl rfl rfl hX5 (HA.out _ _ (HR.out _)) ((HW.out _ hw3).trans (hO5.below (Nat.le_refl _) hWs3))
        | some st =>
          obtain ⟨p', ts'⟩ := st
          rw [hz] at cL
          replace cL : ∀ w2, PS w2 55 (w.heap.size + 1) (w.heap.size + 1) p ts v → BdsAt w2 ∧ MlAt w2 → Calls Tryd.prog 45 #[.pointer (some ⟨w.heap.size + 1, 0, none⟩), .int .i64 ((i : Int) + 1), strV a] w2 fun e w' => e = .returned (.bool true) ∧ Below (w.heap.size + 1) w2 w' ∧ ∃ v', PS w' 55 (w.heap.size + 1) (w.heap.size + 1) p' ts' v' := cL
          have HR : Hid (readL rd 0 (p0, []) (pieces 10 s) = readL rd (i + 1) (p', ts') (pieces 10 b)) := hrd'.trans (readL_good ha hz)
          have HG : Hid (GoodP p' ∧ ts'.length ≤ ts.length + 1) := line_good hz hgp
          clear hrd' ha hS hgp hz
          by_cases hi4 : i < 4
          · have d1 : (i : Int) + 1 ≤ 4 := by omega
            go_wp2_with (first
              | (go_at_call 44; (with_reducible refine (cC _).mono ?_); rintro e w2 ⟨rfl, hb2⟩; have hw2 : Below (w.heap.size + 1) w1 w2 := hbr.trans (hb2.mono hSN))
              | (go_at_call 45; (with_reducible refine (cL w2 (HS.out.below hb2) (HB.out _ hw2)).mono ?_); rintro e w3 ⟨rfl, hb3, v3, hS3⟩; have hw3 := hw2.trans hb3))
            go_roundw
            case rel => exact ⟨i + 1, p', ts', b, v3, rfl, rfl, HR.out, by simp at hlen; omega, by have := HG.out.2; omega, HG.out.1, hS3, hw3⟩
            case measure => show b.length < (a ++ 10 :: b).length; simp; omega
          · have d1 : ¬ (i : Int) + 1 ≤ 4 := by omega
            have d2 : ¬ (a ++ 10 :: b) = [] := fun e => hend ⟨by omega, e⟩
            have d3 : ((a ++ 10 :: b) == []) = false := by rw [beq_eq_false_iff_ne]; exact d2
            have d4 : ((a ++ 10 :: b) != []) = true := by rw [bne_iff_ne]; exact d2
            clear d2
            go_wp2_with (first
              | (go_at_call 44; (with_reducible refine (cC _).mono ?_); rintro e w2 ⟨rfl, hb2⟩; have hw2 : Below (w.heap.size + 1) w1 w2 := hbr.trans (hb2.mono hSN))
              | (go_at_call 45; (with_reducible refine (cL w2 (HS.out.below hb2) (HB.out _ hw2)).mono ?_); rintro e w3 ⟨rfl, hb3, v3, hS3⟩; have hw3 := hw2.trans hb3))
            go_roundw
            case rel => exact ⟨i + 1, p', ts', b, v3, rfl, rfl, HR.out, by simp at hlen; omega, by have := HG.out.2; omega, HG.out.1, hS3, hw3⟩
            case measure => show b.length < (a ++ 10 :: b).length; simp; omega
/-- what plan.Parse answers -/
theorem pparse_any {rd : List UInt8 → Option K} (hrd : RdOk rd) (s : List UInt8) (w : World) (hB : BdsAt w) (hM : MlAt w) (hl : s.length ≤ 9223372036854775807) :
    Calls Tryd.prog 18 #[strV s] w fun e w' => PlanR rd s e w' ∧ Below w.heap.size w w' := by
  by_cases h : s.length ≤ 2048
  · exact parse_short hrd s w hB hM h
  · exact parse_large rd s w (by omega) hl
end Pln
end Go.Proofs.YtcaobnmfgnbolabDoor
