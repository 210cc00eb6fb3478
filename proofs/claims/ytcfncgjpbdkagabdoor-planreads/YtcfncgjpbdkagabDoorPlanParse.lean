/- What plan.Parse answers, of every text. -/
import Derived.Test.YtcfncgjpbdkagabDoorPk14
import Derived.Test.YtcfncgjpbdkagabDoorPk10
import Derived.Test.YtcfncgjpbdkagabDoorPlanCheck2
import Derived.Laws.ResultCell
namespace Go.Proofs.YtcfncgjpbdkagabDoor
namespace Pln
open Go.RowKit Lai Civ Crn Pie
set_option maxRecDepth 8000

/-- a line of a plan's text -/
theorem pln_any {rd : List UInt8 → Option K} (hrd : RdOk rd) (i : Nat) (hi2 : i ≤ 10000) (text : List UInt8) (N Q : Nat) (p : Pd) (ts : List Tr) (v : Value) (w : World) (hS : PS w 63 N Q p ts v) (hB : BdsAt w) (hM : MlAt w) (ht : text.length ≤ 2048) (hts : ts.length ≤ 10000) :
    Calls Tryd.prog 40 #[.pointer (some ⟨Q, 0, none⟩), .int .i64 ((i : Int) + 1), strV text] w fun e w' => LineR 63 N Q w (lineS rd i (p, ts) (pieces 32 text)) e w' := by
  match i with
  | 0 => exact pln0 rd text N Q p ts v w hS ht
  | 1 => exact pln1 rd text N Q p ts v w hS ht
  | 2 => exact pln2 rd text N Q p ts v w hS ht
  | 3 => exact pln3 rd text N Q p ts v w hS ht
  | i + 4 => exact pln4 hrd (i + 4) (by omega) hi2 text N Q p ts v w hS hB hM ht hts
theorem PS.plat {w : World} {e : TypeId} {N Q : Nat} {p : Pd} {ts : List Tr} {v : Value} (h : PS w e N Q p ts v) : PlAt w Q p v := PlAt.of h.cel
/-- another block has turned -/
theorem PS.other {w w' : World} {e : TypeId} {N Q R : Nat} {p : Pd} {ts : List Tr} {v : Value} (h : PS w e N Q p ts v) (o : OnlyQ R w w') (hR : R < N) : PS w' e N Q p ts v := by
  have hQ : w'.heap[Q]? = w.heap[Q]? := o.block Q h.lt (by have := h.bQ; omega)
  exact ⟨Nat.lt_of_lt_of_le h.lt o.size, h.bQ, fun j => (World.cell?_of_block (w := w) (a := ⟨Q, j, none⟩) hQ).trans (h.cel j), fun j => (World.frozen?_of_block (w := w) (a := ⟨Q, j, none⟩) hQ).trans (h.fz j), owns_blockT h.own (fun g hg => o.block g (h.own.lt g hg).2 (by have := (h.own.lt g hg).1; omega)), h.ne⟩
/-- a plan in a block of its own -/
structure BX (w : World) (R : Nat) (p : Pd) (v : Value) : Prop where
  lt : R < w.heap.size
  cel : ∀ o, w.cell? ⟨R, o, none⟩ = (planC p v)[o]?
  fz : ∀ o, w.frozen? ⟨R, o, none⟩ = false
theorem BX.below {w w' : World} {R n : Nat} {p : Pd} {v : Value} (h : BX w R p v) (hb : Below n w w') (hn : R < n) : BX w' R p v :=
  ⟨Nat.lt_of_lt_of_le h.lt hb.size, fun o => (World.cell?_of_block (w := w) (a := ⟨R, o, none⟩) (hb.block R hn)).trans (h.cel o), fun o => (World.frozen?_of_block (w := w) (a := ⟨R, o, none⟩) (hb.block R hn)).trans (h.fz o)⟩
theorem BX.again {w : World} {R : Nat} {p p' : Pd} {v v' : Value} (h : BX w R p v) : BX (w.setCells R 0 (planC p' v').toList) R p' v' := by
  have o := OnlyQ.sets R (planC p' v').toList w 0
  refine ⟨Nat.lt_of_lt_of_le h.lt o.size, ?_, fun j => (o.fz j).trans (h.fz j)⟩
  have e : setRow (planC p v) 0 (planC p' v').toList = planC p' v' := by simp [setRow]
  have := cells_sets (planC p' v').toList 0 h.cel (by simp)
  rw [e] at this
  exact this
/-- a plan is laid into a block, by one step of a walk -/
theorem wp_setPl {ops : Array Oper} {rest : List Oper} {x y : Operand} {ps : String} {af : Array Edge} {A : Act} {Q : Exit → Act → World → Prop} {w : World} {R : Nat} {p p' : Pd} {v v' : Value} (h : BX w R p v) (hv : v'.oneCell' = true) (hx : A.eval x = .pointer (some ⟨R, 0, none⟩)) (hy : A.eval y = planV p' v')
    (g : ∀ w', BX w' R p' v' → OnlyQ R w w' → wpList Tryd.prog ops Q rest (A.put none undef) w') :
    wpList Tryd.prog ops Q ({ dst := none, op := .store 44 x y, type := 0, pos := ps, after := af, guard := none } :: rest) A w :=
  wpList_store_mid rfl 44 x y rfl R 0 (planC p' v') hx hy (fun j hj => ⟨by rw [h.cel]; simp at hj ⊢; omega, h.fz _⟩) (by kernel_rfl) (by simp [Value.oneCell']; exact hv) (g _ h.again (OnlyQ.sets R _ _ _))
theorem results_cell2 {fn : Func} {p u x : Tmp} {ty : TypeId} (h : fn.results = #[.cell p ty, .tmp u, .tmp x]) (tmps : Array Value) (P : Program) (w : World) :
    (results fn tmps).run P w = ((asAddr (tmps.getD p undef)).run P w).andThen fun a w₁ => ((loadVar ty a).run P w₁).andThen fun v w₂ => .ok (.tuple #[v, tmps.getD u undef, tmps.getD x undef]) w₂ := by
  simp only [results, h]
  simp [Sem.run_bind, Result.andThen]
theorem finPl {rd : List UInt8 → Option K} {s : List UInt8} {a : Act} {w Wf : World} {R : Nat} {p : Pd} {v : Value} {n E : Int} (hp : a.tmps[2]? = some (.pointer (some ⟨R, 0, none⟩))) (h3 : a.tmps[3]? = some (.int .i64 n)) (h4 : a.tmps[4]? = some (.int .i64 E)) (ha : a.defers = []) (hX : BX Wf R p v) (hA : PlanR rd s (.returned (.tuple #[planV p v, .int .i64 n, .int .i64 E])) Wf) (hb : Below w.heap.size w Wf) :
    bodyPost Tryd.prog Tryd.f17 (fun e w' => PlanR rd s e w' ∧ Below w.heap.size w w') Exit.ret a Wf := by
  refine bodyPost_ret (v := .tuple #[planV p v, .int .i64 n, .int .i64 E]) ?_ ha ⟨hA, hb⟩
  have e2 : a.tmps.getD 2 undef = .pointer (some ⟨R, 0, none⟩) := by rw [Array.getD_eq_getD_getElem?, hp]; rfl
  have e3 : a.tmps.getD 3 undef = .int .i64 n := by rw [Array.getD_eq_getD_getElem?, h3]; rfl
  have e4 : a.tmps.getD 4 undef = .int .i64 E := by rw [Array.getD_eq_getD_getElem?, h4]; rfl
  rw [results_cell2 Tryd.results17, e2, e3, e4]
  have hl := run_loadVar_mid (P := Tryd.prog) Wf R 0 44 _ _ (range_plan (PlAt.of hX.cel)) Tryd.underlying44 rfl (by kernel_rfl)
  simp only [asAddr, Sem.run_pure, Result.andThen_ok, hl]
/-- where Parse stands: i lines are read -/
def PaR (rd : List UInt8 → Option K) (s : List UInt8) (w w1 : World) (sv lv : Value) (wr : World) : Prop :=
  ∃ (i : Nat) (p : Pd) (ts : List Tr) (s' : List UInt8) (v : Value), sv = strV s' ∧ lv = .int .i64 ((i : Int) + 1) ∧ readL rd 0 (p0, []) (pieces 10 s) = readL rd i (p, ts) (pieces 10 s') ∧ s'.length + i ≤ s.length ∧ ts.length ≤ i ∧ GoodP p ∧ PS wr 63 (w.heap.size + 1) (w.heap.size + 1) p ts v ∧ Below (w.heap.size + 1) w1 wr
def strLen : Value → Nat
  | .string b => b.size
  | _ => 0
theorem parse_large (rd : List UInt8 → Option K) (s : List UInt8) (w : World) (h : 2048 < s.length) (h2 : s.length ≤ 9223372036854775807) :
    Calls Tryd.prog 17 #[strV s] w fun e w' => PlanR rd s e w' ∧ Below w.heap.size w w' := by
  have hsz : (⟨s.toArray⟩ : ByteArray).size = s.length := rfl
  have h1 : (2048 : Int) < s.length := by omega
  go_enter Tryd.func17, Tryd.ntmps17
  go_wp2
  exact finPl (R := w.heap.size) (p := p0) (v := .slice none 0 0) rfl rfl rfl rfl ⟨by simp, fun o => by simp [p0], fun o => by simp⟩ (Or.inl ⟨h, rfl⟩) (balloc _)
/-- the beginning of the loop: the block of the answer, the plan -/
theorem pa_start (rd : List UInt8 → Option K) (s : List UInt8) (w : World) (ta : TypeId) : ∃ w1, w1 = w.alloc (.cells #[.string ⟨#[]⟩, .int .i64 0, .int .i64 0, .int .i64 0, .int .i64 0, .int .i64 0, .int .i64 0, .int .i64 0, .int .i64 0, .int .i64 0, .int .i64 0, .int .i64 0, .int .i64 0, .int .i64 0, .int .i64 0, .int .i64 0, .int .i64 0, .slice none 0 0] ta) ∧ BX w1 w.heap.size p0 (.slice none 0 0) ∧ w1.heap.size = w.heap.size + 1 ∧ Below w.heap.size w w1 ∧ PaR rd s w w1 (strV s) (.int .i64 1) (w1.alloc (.cells #[.string ⟨#[]⟩, .int .i64 0, .int .i64 0, .int .i64 0, .int .i64 0, .int .i64 0, .int .i64 0, .int .i64 0, .int .i64 0, .int .i64 0, .int .i64 0, .int .i64 0, .int .i64 0, .int .i64 0, .int .i64 0, .int .i64 0, .int .i64 0, .slice none 0 0] ta)) := by
  have hX : BX (w.alloc (.cells (planC p0 (.slice none 0 0)) ta)) w.heap.size p0 (.slice none 0 0) := ⟨by simp, fun o => by simp, fun o => by simp⟩
  have hz : (w.alloc (.cells (planC p0 (.slice none 0 0)) ta)).heap.size = w.heap.size + 1 := by simp
  refine ⟨_, rfl, hX, hz, balloc _, 0, p0, [], s, .slice none 0 0, rfl, rfl, rfl, by omega, Nat.le_refl _, good0, ?_, ?_⟩
  · have := PS.new (w.alloc (.cells (planC p0 (.slice none 0 0)) ta)) 63 ta
    rw [hz] at this
    exact this
  · have := balloc (w := w.alloc (.cells (planC p0 (.slice none 0 0)) ta)) (.cells (planC p0 (.slice none 0 0)) ta)
    rw [hz] at this
    exact this
end Pln
end Go.Proofs.YtcfncgjpbdkagabDoor
