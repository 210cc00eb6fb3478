/- A plan's text is read back: what PlanBack leans on. The law that plans come back: its walk. What the calls of the law that plans come back answer, told apart. -/
import Derived.Test.YtcfncgjpbdkagafDoorPrintFin
import Derived.Test.YtcfncgjpbdkagafDoorPlanParse2
import Derived.Test.YtcfncgjpbdkagafDoorSamePlan
import Derived.Deep.DeepCutAuto
namespace Go.Proofs.YtcfncgjpbdkagafDoor
namespace Pln
open Go.RowKit Lai Civ Crn Pie RCrn
set_option maxRecDepth 8000

theorem dec_no10 (u : Nat) : (10 : UInt8) ∉ Lib.decDigits u := fun g => by
  have := List.all_eq_true.1 (dec_all u).1 10 g
  cases this
theorem row_no10 (p : Int × Int) : (10 : UInt8) ∉ rowT p := by
  unfold rowT
  split
  · exact dec_no10 _
  · intro g
    rcases List.mem_append.1 g with g | g
    · rcases List.mem_append.1 g with g | g
      · exact dec_no10 _ g
      · simp at g
    · exact dec_no10 _ g
theorem word_no10 (s : Int) (b : Bool) : (10 : UInt8) ∉ wordT s b := by
  unfold wordT
  split
  · simp
  · refine join_no (by decide) _ fun y hy => ?_
    obtain ⟨q, _, rfl⟩ := List.mem_map.1 hy
    exact row_no10 q
theorem cron_no10 (c : K) : (10 : UInt8) ∉ kT c := by
  unfold kT cronT
  refine join_no (by decide) _ fun y hy => ?_
  simp only [List.mem_cons, List.not_mem_nil, or_false] at hy
  rcases hy with rfl | rfl | rfl | rfl | rfl
  · exact word_no10 _ _
  · exact word_no10 _ _
  · exact word_no10 _ _
  · exact word_no10 _ _
  · exact word_no10 _ _
theorem text_ok {rd : List UInt8 → Option K} (hrd : RdOk rd) (c : K) (u : Us c) (hc : kc c = true) : TextOk rd kT c := by
  have h1 : rd (kT c) = some c := rd_back hrd c u hc
  refine ⟨h1, fun g => ?_, cron_no10 c⟩
  rw [rd_slash hrd _ g] at h1
  cases h1
/-- a right plan's text is read back -/
theorem back_read {rd : List UInt8 → Option K} (hrd : RdOk rd) {p : Pd} {ts : List Tr} (hU : ∀ t ∈ ts, TrU t) (h : chkP p ts = 0) : readL rd 0 (p0, []) (pieces 10 (planT kT p ts)) = .inr (p, ts) := by
  obtain ⟨h1, _, h3, h4⟩ := chk_parts h
  refine plan_back h1 h3 fun t ht => ⟨h4 t ht, fun hk => ?_⟩
  have hb := h4 t ht
  unfold trB at hb
  rw [if_pos hk] at hb
  simp only [Bool.and_eq_true, decide_eq_true_eq] at hb
  exact ⟨text_ok hrd _ (hU t ht).a hb.2.2.1, text_ok hrd _ (hU t ht).b hb.2.2.2⟩
theorem planT_len {p : Pd} {ts : List Tr} (hi : PdI p) (hU : ∀ t ∈ ts, TrU t) (h : chkP p ts = 0) : (planT kT p ts).length ≤ 100000 := by
  obtain ⟨h1, h2, _, h4⟩ := chk_parts h
  have hln := nm_len h1
  have m1 : (wPlan ++ [32] ++ p.nm).length ≤ 100 := by simp; omega
  have n1 := len4 m1 (I4 hi.mn hi.mx hi.po hi.co)
  have n2 := len4 (word := wRest) (by decide) (I4 hi.tl hi.bk hi.af hi.sh)
  have n3 := len4 (word := wUp) (by decide) (I4 hi.uw hi.up hi.uc hi.ue)
  have n4 := len4 (word := wDown) (by decide) (I4 hi.dw hi.dp hi.dc hi.de)
  have ht := tail_len (fun t ht => tr_len (hU t ht) (h4 t ht)) ts.length
  rw [List.take_length] at ht
  have e : planT kT p ts = headT p ++ tailT kT ts := rfl
  rw [e, List.length_append]
  unfold headT
  rw [List.length_append, List.length_append, List.length_append]
  omega
/-- what Parse answers of a right plan's text -/
theorem parse_back {rd : List UInt8 → Option K} (hrd : RdOk rd) {p : Pd} {ts : List Tr} (hU : ∀ t ∈ ts, TrU t) (h : chkP p ts = 0) {e : Ending} {w' : World} (hR : PlanR rd (planT kT p ts) e w') :
    (2048 < (planT kT p ts).length ∧ e = .returned (.tuple #[pl0, .int .i64 0, .int .i64 2])) ∨ ((planT kT p ts).length ≤ 2048 ∧ PlanEnd w' p ts e) := by
  rcases hR with hR | ⟨hl, hR⟩
  · exact Or.inl hR
  · right
    refine ⟨hl, ?_⟩
    rw [back_read hrd hU h] at hR
    rcases hR with ⟨g, _⟩ | ⟨_, g⟩
    · exact absurd h g
    · exact g
/-- what Parse answers of any text, told apart -/
theorem parse_told {rd : List UInt8 → Option K} (hrd : RdOk rd) {s : List UInt8} {e : Ending} {w' : World} (hR : PlanR rd s e w') :
    (∃ (n : Nat) (E : Int), E ≠ 0 ∧ e = .returned (.tuple #[pl0, .int .i64 n, .int .i64 E])) ∨ ∃ p ts, PdI p ∧ p.nm.length ≤ 3000 ∧ (∀ t ∈ ts, TrU t) ∧ chkP p ts = 0 ∧ PlanEnd w' p ts e := by
  rcases hR with ⟨_, hR⟩ | ⟨_, hR⟩
  · exact Or.inl ⟨0, 2, by decide, hR⟩
  · cases hr : readL rd 0 (p0, []) (pieces 10 s) with
    | inl n => rw [hr] at hR; exact Or.inl ⟨n, 3, by decide, hR⟩
    | inr st =>
      obtain ⟨p, ts⟩ := st
      rw [hr] at hR
      obtain ⟨hg, hu⟩ := readL_ok (fun s c h => (hrd.yes s c h).1) _ _ _ _ _ hr good0 (fun t ht => by cases ht)
      rcases hR with ⟨h1, h2⟩ | ⟨h1, h2⟩
      · exact Or.inl ⟨0, _, h1, h2⟩
      · exact Or.inr ⟨p, ts, hg.1, hg.2, hu, h1, h2⟩
/-- the plan that the law writes out -/
def pa : Pd := ⟨[97], 0, 3, 1, 9, 0, 0, 0, 0, 0, 0, 0, 0, 0, 0, 0, 0⟩
theorem pa_chk : chkP pa [] = 0 := by decide
theorem pa_int : PdI pa := ⟨⟨by decide, by decide⟩, ⟨by decide, by decide⟩, ⟨by decide, by decide⟩, ⟨by decide, by decide⟩, I0, I0, I0, I0, I0, I0, I0, I0, I0, I0, I0, I0⟩
theorem itoa1 (n : Nat) (h : n < 10) : Lib.itoa (n : Int) = [UInt8.ofNat (48 + n)] := by
  have : n = 0 ∨ n = 1 ∨ n = 2 ∨ n = 3 ∨ n = 4 ∨ n = 5 ∨ n = 6 ∨ n = 7 ∨ n = 8 ∨ n = 9 := by omega
  rcases this with rfl | rfl | rfl | rfl | rfl | rfl | rfl | rfl | rfl | rfl <;> (unfold Lib.itoa; rw [if_neg (by decide)]; simp [Lib.decDigits])
end Pln
end Go.Proofs.YtcfncgjpbdkagafDoor
namespace Go.Proofs.YtcfncgjpbdkagafDoor
namespace Pln
open Go.RowKit Lai Civ Crn Pie RCrn
set_option maxRecDepth 8000

theorem pa_text : planT kT pa [] = [112, 108, 97, 110, 32, 97, 32, 48, 32, 51, 32, 49, 32, 57, 10, 114, 101, 115, 116, 32, 48, 32, 48, 32, 48, 32, 48, 10, 117, 112, 32, 48, 32, 48, 32, 48, 32, 48, 10, 100, 111, 119, 110, 32, 48, 32, 48, 32, 48, 32, 48, 10] := by
  have i0 : Lib.itoa 0 = [48] := itoa1 0 (by decide)
  have i1 : Lib.itoa 1 = [49] := itoa1 1 (by decide)
  have i3 : Lib.itoa 3 = [51] := itoa1 3 (by decide)
  have i9 : Lib.itoa 9 = [57] := itoa1 9 (by decide)
  have e : planT kT pa [] = headT pa ++ [] := rfl
  rw [e]
  unfold headT lnT pa
  simp [i0, i1, i3, i9, Lib.joinTail]
theorem TrsAt.nil (w : World) (a : Option Addr) : TrsAt w a [] := fun i t h => by simp at h
/-- a plan is laid into a new block, by one step of a walk -/
theorem wp_newPl {ops : Array Oper} {rest : List Oper} {x y : Operand} {ps : String} {af : Array Edge} {A : Act} {Q : Exit → Act → World → Prop} {w : World} {p' : Pd} {v' : Value} (hv : v'.oneCell' = true) (hx : A.eval x = .pointer (some ⟨w.heap.size, 0, none⟩)) (hy : A.eval y = planV p' v')
    (g : ∀ w', BX w' w.heap.size p' v' → Below w.heap.size w w' → wpList Tryd.prog ops Q rest (A.put none undef) w') :
    wpList Tryd.prog ops Q ({ dst := none, op := .store 26 x y, type := 0, pos := ps, after := af, guard := none } :: rest) A (w.alloc (.cells #[.string ⟨#[]⟩, .int .i64 0, .int .i64 0, .int .i64 0, .int .i64 0, .int .i64 0, .int .i64 0, .int .i64 0, .int .i64 0, .int .i64 0, .int .i64 0, .int .i64 0, .int .i64 0, .int .i64 0, .int .i64 0, .int .i64 0, .int .i64 0, .slice none 0 0] 26)) := by
  have hX : BX (w.alloc (.cells (planC p0 (.slice none 0 0)) 26)) w.heap.size p0 (.slice none 0 0) := ⟨by simp, fun o => by simp, fun o => by simp⟩
  exact wp_setPl hX hv hx hy fun w' h1 h2 => g w' h1 ((balloc _).trans (h2.below (Nat.le_refl _) (by simp)))
/-- the whole plan, by one step of a walk that is behind a guard -/
theorem wp_planG {ops : Array Oper} {rest : List Oper} {d : Option Nat} {x : Operand} {ps : String} {af : Array Edge} {gd : Option (Nat × Bool)} {A : Act} {Q : Exit → Act → World → Prop} {w : World} {B : Nat} {p : Pd} {sl : Value} (h : PlAt w B p sl) (hx : A.eval x = .pointer (some ⟨B, 0, none⟩))
    (hg : Region.wanted { dst := d, op := .load 26 x, type := 26, pos := ps, after := af, guard := gd } (yielded ops A.tmps) = true)
    (g : wpList Tryd.prog ops Q rest (A.put d (planV p sl)) w) : wpList Tryd.prog ops Q ({ dst := d, op := .load 26 x, type := 26, pos := ps, after := af, guard := gd } :: rest) A w := by
  unfold wpList
  rw [if_pos hg]
  exact Or.inl (wp_load_mid 26 x rfl B 0 hx [.string ⟨p.nm.toArray⟩, .int .i64 p.mn, .int .i64 p.mx, .int .i64 p.po, .int .i64 p.co, .int .i64 p.tl, .int .i64 p.bk, .int .i64 p.af, .int .i64 p.sh, .int .i64 p.uw, .int .i64 p.up, .int .i64 p.uc, .int .i64 p.ue, .int .i64 p.dw, .int .i64 p.dp, .int .i64 p.dc, .int .i64 p.de, sl] _ (range_plan h) Tryd.underlying26 rfl (by kernel_rfl) g)
theorem BX.plat {w : World} {R : Nat} {p : Pd} {v : Value} (h : BX w R p v) : PlAt w R p v := PlAt.of h.cel
/-- Print of a plan that is not right -/
theorem print_bad' (p : Pd) (ts : List Tr) (a : Option Addr) (cap : Nat) (w : World) (hB : BdsAt w) (hi : PdI p) (hl : p.nm.length ≤ 9223372036854775807) (hTr : TrsAt w a ts) (E : Int) (h : chkP p ts = E) (hE : E ≠ 0) :
    Calls Tryd.prog 4 #[planV p (.slice a ts.length cap)] w fun e w' => e = .returned (.tuple #[.string ⟨#[]⟩, .int .i64 E]) ∧ Below w.heap.size w w' := by
  have c0 := fun w hB hTr => check_any p ts a cap w hB hi hl hTr
  rw [h] at c0
  have hA0 := PlAt.new' w p (.slice a ts.length cap) 26
  have hB0 := fun o => hB.below (balloc o) (Nat.le_refl _)
  have hTr0 := fun o => hTr.below (balloc o) (Nat.le_refl _)
  have hne : (E != 0) = true := by rw [bne_iff_ne]; exact hE
  clear h
  go_enter Tryd.func4, Tryd.ntmps4
  go_wp2_with (first
    | (with_reducible refine wp_plan hA0 (by with_unfolding_all rfl) ?_)
    | (go_at_call 8; (with_reducible refine (c0 _ (hB0 _) (hTr0 _)).mono ?_); rintro e w1 ⟨rfl, hb1⟩))
  go_ret2
  exact ⟨rfl, (balloc _).trans (hb1.mono (by simp))⟩
/-- what the law wants of a world -/
structure Gd (w : World) : Prop where
  b : BdsAt w
  t : TabIs64 w
  p : PowAt w
  m : MlAt w
theorem Gd.below {w w' : World} (h : Gd w) (hb : Below w.heap.size w w') : Gd w' := ⟨h.b.below hb (Nat.le_refl _), h.t.below hb (Nat.le_refl _), h.p.below hb (Nat.le_refl _), h.m.below hb (Nat.le_refl _)⟩
end Pln
end Go.Proofs.YtcfncgjpbdkagafDoor
namespace Go.Proofs.YtcfncgjpbdkagafDoor
namespace Pln
open Go.RowKit Lai Civ Crn Pie RCrn
set_option maxRecDepth 8000
set_option linter.unusedVariables false

theorem readL_le {rd : List UInt8 → Option K} : ∀ (ls : List (List UInt8)) (i : Nat) (st : Pd × List Tr) (n : Nat), readL rd i st ls = .inl n → n ≤ i + ls.length + 1
  | [], i, st, n, h => by unfold readL at h; cases h; simp
  | [l], i, st, n, h => by
    unfold readL at h
    split at h
    · cases h
    · cases h; simp
  | l :: m :: ls, i, st, n, h => by
    unfold readL at h
    cases hl : lineS rd i st (pieces 32 l) with
    | none => rw [hl] at h; cases h; simp
    | some st' =>
      rw [hl] at h
      have := readL_le (m :: ls) (i + 1) st' n h
      simp at this ⊢
      omega
/-- Print, and Parse of what it wrote -/
def PrBad (p : Pd) (ts : List Tr) (a : Option Addr) (cap : Nat) (w : World) (E : Int) : Prop := ∀ w', Below w.heap.size w w' → Calls Tryd.prog 4 #[planV p (.slice a ts.length cap)] w' fun e w'' => e = .returned (.tuple #[.string ⟨#[]⟩, .int .i64 E]) ∧ Below w'.heap.size w' w''
def PrOk (p : Pd) (ts : List Tr) (T : List UInt8) : Prop := ∀ a cap w', Gd w' → TrsAt w' a ts → Calls Tryd.prog 4 #[planV p (.slice a ts.length cap)] w' fun e w'' => e = .returned (.tuple #[strV T, .int .i64 0]) ∧ Below w'.heap.size w' w''
def PaBad (s : List UInt8) (n E : Int) : Prop := ∀ w', Gd w' → Calls Tryd.prog 5 #[strV s] w' fun e w'' => e = .returned (.tuple #[planV p0 (.slice none 0 0), .int .i64 n, .int .i64 E]) ∧ Below w'.heap.size w' w''
def PaOk (s : List UInt8) (p : Pd) (ts : List Tr) : Prop := ∀ w', Gd w' → Calls Tryd.prog 5 #[strV s] w' fun e w'' => (∃ a cap, e = .returned (.tuple #[planV p (.slice a ts.length cap), .int .i64 0, .int .i64 0]) ∧ TrsAt w'' a ts) ∧ Below w'.heap.size w' w''
/-- a plan that is not right; one whose text is too long; one whose text is read back -/
def Bad1 (p : Pd) (ts : List Tr) (a : Option Addr) (cap : Nat) (w : World) : Prop := ∃ E, E ≠ 0 ∧ PrBad p ts a cap w E
def Long1 (p : Pd) (ts : List Tr) : Prop := ∃ T : List UInt8, 2048 < T.length ∧ T.length ≤ 100000 ∧ PrOk p ts T ∧ PaBad T 0 2
def Short1 (p : Pd) (ts : List Tr) : Prop := ∃ T : List UInt8, T.length ≤ 2048 ∧ ts.length ≤ 5 ∧ PrOk p ts T ∧ PaOk T p ts
theorem plan_ways {rd : List UInt8 → Option K} (hrd : RdOk rd) (p : Pd) (ts : List Tr) (hi : PdI p) (hU : ∀ t ∈ ts, TrU t) (h : chkP p ts = 0) : Long1 p ts ∨ Short1 p ts := by
  have hP : PrOk p ts (planT kT p ts) := fun a cap w' g hT => print_ok p ts a cap w' g.b g.t g.p hi hT hU h
  have hl := planT_len hi hU h
  have hc := fun w' (g : Gd w') => (pparse_any hrd (planT kT p ts) w' g.b g.m (by omega)).mono fun e w'' q => (⟨parse_back hrd hU h q.1, q.2⟩ : _ ∧ Below w'.heap.size w' w'')
  generalize planT kT p ts = T at *
  by_cases h2 : T.length ≤ 2048
  · refine Or.inr ⟨T, h2, (chk_parts h).2.1, hP, fun w' g => (hc w' g).mono fun e w'' q => ⟨?_, q.2⟩⟩
    rcases q.1 with ⟨q1, _⟩ | ⟨_, a, cap, q1, q2, _, _⟩
    · omega
    · exact ⟨a, cap, q1, q2⟩
  · refine Or.inl ⟨T, by omega, hl, hP, fun w' g => (hc w' g).mono fun e w'' q => ⟨?_, q.2⟩⟩
    rcases q.1 with ⟨_, q1⟩ | ⟨q1, _⟩
    · exact q1
    · omega
theorem text_ways {rd : List UInt8 → Option K} (hrd : RdOk rd) (s : List UInt8) (hs : s.length ≤ 9223372036854775807) : (∃ n E : Int, 0 ≤ n ∧ n ≤ 10000 ∧ E ≠ 0 ∧ PaBad s n E) ∨ ∃ p ts, PaOk s p ts ∧ (Long1 p ts ∨ Short1 p ts) := by
  have hc := fun w' (g : Gd w') => pparse_any hrd s w' g.b g.m hs
  by_cases hl : 2048 < s.length
  · refine Or.inl ⟨0, 2, by omega, by omega, by decide, fun w' g => (hc w' g).mono fun e w'' q => ⟨?_, q.2⟩⟩
    rcases q.1 with ⟨_, q1⟩ | ⟨q1, _⟩
    · exact q1
    · omega
  · cases hr : readL rd 0 (p0, []) (pieces 10 s) with
    | inl n =>
      have hn : (n : Int) ≤ 10000 := by
        have := readL_le _ _ _ _ hr
        rw [pieces_len] at this
        have := List.count_le_length (a := (10 : UInt8)) (l := s)
        omega
      refine Or.inl ⟨n, 3, by omega, hn, by decide, fun w' g => (hc w' g).mono fun e w'' q => ⟨?_, q.2⟩⟩
      rcases q.1 with ⟨q1, _⟩ | ⟨_, q1⟩
      · omega
      · rw [hr] at q1; exact q1
    | inr st =>
      obtain ⟨p, ts⟩ := st
      obtain ⟨hg, hu⟩ := readL_ok (fun s c h => (hrd.yes s c h).1) _ _ _ _ _ hr good0 (fun t ht => by cases ht)
      by_cases hE : chkP p ts = 0
      · refine Or.inr ⟨p, ts, fun w' g => (hc w' g).mono fun e w'' q => ⟨?_, q.2⟩, plan_ways hrd p ts hg.1 hu hE⟩
        rcases q.1 with ⟨q1, _⟩ | ⟨_, q1⟩
        · omega
        · rw [hr] at q1
          rcases q1 with ⟨q2, _⟩ | ⟨_, a, cap, q2, q3, _, _⟩
          · exact absurd hE q2
          · exact ⟨a, cap, q2, q3⟩
      · refine Or.inl ⟨0, chkP p ts, by omega, by omega, hE, fun w' g => (hc w' g).mono fun e w'' q => ⟨?_, q.2⟩⟩
        rcases q.1 with ⟨q1, _⟩ | ⟨_, q1⟩
        · omega
        · rw [hr] at q1
          rcases q1 with ⟨_, q2⟩ | ⟨q2, _⟩
          · exact q2
          · exact absurd q2 hE
end Pln
end Go.Proofs.YtcfncgjpbdkagafDoor
