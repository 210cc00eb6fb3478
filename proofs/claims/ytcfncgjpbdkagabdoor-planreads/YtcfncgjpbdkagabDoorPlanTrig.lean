/- A trigger's line: parseTrigger. -/
import Derived.Test.YtcfncgjpbdkagabDoorPlanSpan
import Derived.Laws.ResultCell
namespace Go.Proofs.YtcfncgjpbdkagabDoor
namespace Pln
open Go.RowKit Lai Civ Crn Pie
set_option maxRecDepth 8000

/-- how a trigger is read -/
def TgR (o : Option Tr) (E : Ending) : Prop := match o with
  | none => ∃ t, E = .returned (.tuple #[trV t, .bool false])
  | some t => E = .returned (.tuple #[trV t, .bool true])
theorem TS.at {w : World} {T : Nat} {t : Tr} (h : TS w T t) : TrAt w T 0 t := by
  constructor
  · simpa using h.cel 0
  · simpa using h.cel 1
  · simpa using h.cel 2
  · simpa using h.cel 3
  · simpa using h.cel 4
  · simpa using h.cel 5
  · simpa using h.cel 6
  · simpa using h.cel 7
  · simpa using h.cel 8
  · simpa using h.cel 9
  · simpa using h.cel 10
  · simpa using h.cel 11
  · simpa using h.cel 12
  · simpa using h.cel 13
  · simpa using h.cel 14
  · simpa using h.cel 15
  · simpa using h.cel 16
theorem tz (w : World) (ta : TypeId) (k : Int) : TS (w.alloc (.cells #[.int .i64 k, .int .i64 0, .int .i64 0, .int .u64 0, .int .u64 0, .int .u64 0, .int .u64 0, .int .u64 0, .bool false, .bool false, .int .u64 0, .int .u64 0, .int .u64 0, .int .u64 0, .int .u64 0, .bool false, .bool false] ta)) w.heap.size ⟨k, 0, 0, k0, k0⟩ := TS.new w ta ⟨k, 0, 0, k0, k0⟩
theorem TS.again {w : World} {T : Nat} {t : Tr} (h : TS w T t) : TS (w.setCells T 0 (trC t).toList) T t :=
  h.turn (OnlyQ.sets T _ _ _) (by
    have e : setRow (trC t) 0 (trC t).toList = trC t := by simp [setRow]
    have := cells_sets (trC t).toList 0 h.cel (by simp)
    rw [e] at this
    exact this)
/-- a trigger is laid into its block anew, by one step of a walk -/
theorem wp_setTr {ops : Array Oper} {rest : List Oper} {x y : Operand} {ps : String} {af : Array Edge} {A : Act} {Q : Exit → Act → World → Prop} {w : World} {T : Nat} {t : Tr} (h : TS w T t) (hx : A.eval x = .pointer (some ⟨T, 0, none⟩)) (hy : A.eval y = trV t)
    (g : ∀ w', TS w' T t → OnlyQ T w w' → wpList Tryd.prog ops Q rest (A.put none undef) w') :
    wpList Tryd.prog ops Q ({ dst := none, op := .store 63 x y, type := 0, pos := ps, after := af, guard := none } :: rest) A w :=
  wpList_store_mid rfl 63 x y rfl T 0 (trC t) hx hy (h.there 0 17 (by decide)) (by kernel_rfl) (by simp [Value.oneCell']) (g _ h.again (OnlyQ.sets T _ _ _))
theorem finT {a : Act} {w Wf : World} {T : Nat} {t : Tr} {b : Bool} {o : Option Tr} (hp : a.tmps[4]? = some (.pointer (some ⟨T, 0, none⟩))) (he : a.tmps[5]? = some (.bool b)) (ha : a.defers = []) (hT : TS Wf T t) (hA : TgR o (.returned (.tuple #[trV t, .bool b]))) (hb : Below w.heap.size w Wf) :
    bodyPost Tryd.prog Tryd.f69 (fun e w' => TgR o e ∧ Below w.heap.size w w') Exit.ret a Wf := by
  refine bodyPost_ret (v := .tuple #[trV t, .bool b]) ?_ ha ⟨hA, hb⟩
  have e4 : a.tmps.getD 4 undef = .pointer (some ⟨T, 0, none⟩) := by rw [Array.getD_eq_getD_getElem?, hp]; rfl
  have e5 : a.tmps.getD 5 undef = .bool b := by rw [Array.getD_eq_getD_getElem?, he]; rfl
  rw [results_cell_tmp Tryd.results69, e4, e5]
  have hl := run_loadVar_mid (P := Tryd.prog) Wf T 0 63 _ _ (range_tr hT.at) Tryd.underlying63 rfl (by kernel_rfl)
  simp only [asAddr, Sem.run_pure, Result.andThen_ok, hl]
/-- two numbers of a trigger -/
theorem tnum (k : Int) (ws : List (List UInt8)) (B off cap : Nat) (ta tb : TypeId) (w : World) (hW : TxAt w B off ws) (hws : ws.length ≤ 3000) (hx : ∀ x ∈ ws, x.length ≤ 3000) :
    Calls Tryd.prog 67 #[.slice (some ⟨B, off, none⟩) ws.length cap, .slice (some ⟨w.heap.size + 1, 0, none⟩) 2 2] ((w.alloc (.cells #[.int .i64 k, .int .i64 0, .int .i64 0, .int .u64 0, .int .u64 0, .int .u64 0, .int .u64 0, .int .u64 0, .bool false, .bool false, .int .u64 0, .int .u64 0, .int .u64 0, .int .u64 0, .int .u64 0, .bool false, .bool false] ta)).alloc (.cells #[.pointer (some ⟨w.heap.size, 1, none⟩), .pointer (some ⟨w.heap.size, 2, none⟩)] tb)) fun e w' => e = .returned (.bool (two ws).isSome) ∧ Below w.heap.size w w' ∧ ∃ a b, TS w' w.heap.size ⟨k, a, b, k0, k0⟩ ∧ ∀ q, two ws = some q → q = (a, b) := by
  have hS := tz w ta k
  have hz : (w.alloc (.cells #[.int .i64 k, .int .i64 0, .int .i64 0, .int .u64 0, .int .u64 0, .int .u64 0, .int .u64 0, .int .u64 0, .bool false, .bool false, .int .u64 0, .int .u64 0, .int .u64 0, .int .u64 0, .int .u64 0, .bool false, .bool false] ta)).heap.size = w.heap.size + 1 := by simp
  have hb0 : Below w.heap.size w (w.alloc (.cells #[.int .i64 k, .int .i64 0, .int .i64 0, .int .u64 0, .int .u64 0, .int .u64 0, .int .u64 0, .int .u64 0, .bool false, .bool false, .int .u64 0, .int .u64 0, .int .u64 0, .int .u64 0, .int .u64 0, .bool false, .bool false] ta)) := balloc _
  generalize w.alloc (.cells #[.int .i64 k, .int .i64 0, .int .i64 0, .int .u64 0, .int .u64 0, .int .u64 0, .int .u64 0, .int .u64 0, .bool false, .bool false, .int .u64 0, .int .u64 0, .int .u64 0, .int .u64 0, .int .u64 0, .bool false, .bool false] ta) = W at *
  rw [← hz]
  have hBl := hW.1
  refine (pnums_w ws [1, 2] B off cap w.heap.size 2 W _ (hW.below hb0 hBl) (by omega) ⟨hS.lt, hS.fz, hS.told2⟩ (by decide) rfl (by decide) hws hx (balloc _) (plc2 W tb w.heap.size 1 2)).mono fun e w' h => ?_
  obtain ⟨a, b, h1, h2, h3, h4⟩ := h.two hS
  exact ⟨h2, hb0.trans (h3.below (Nat.le_refl _) (by omega)), a, b, h1, h4⟩
set_option maxHeartbeats 4000000 in
theorem ptrig_lag (rd : List UInt8 → Option K) (ws : List (List UInt8)) (B off cap : Nat) (w : World) (hW : TxAt w B off ws) (hws : ws.length ≤ 3000) (hx : ∀ x ∈ ws, x.length ≤ 3000) :
    Calls Tryd.prog 69 #[strV wLag, .slice (some ⟨B, off, none⟩) ws.length cap] w fun e w' => TgR (trS rd wLag ws) e ∧ Below w.heap.size w w' := by
  have c1 := fun ta tb => tnum 1 ws B off cap ta tb w hW hws hx
  obtain ⟨z, hz⟩ : ∃ z, z = trS rd wLag ws := ⟨_, rfl⟩
  rw [← hz]
  have HL : Hid (z = (two ws).map fun p => ⟨1, p.1, p.2, k0, k0⟩) := by unfold Hid; rw [hz]; unfold trS; rw [if_pos rfl]
  clear hW hx hz
  generalize two ws = o at *
  go_enter Tryd.func69, Tryd.ntmps69
  go_wp2_with (first
    | (with_reducible refine wp_tr hA (by with_unfolding_all rfl) ?_)
    | ((with_reducible refine wp_setTr hT (by with_unfolding_all rfl) (by with_unfolding_all rfl) ?_); intro w2 hT2 hO2)
    | (go_at_call 67; (with_reducible refine (c1 _ _).mono ?_); rintro e w1 ⟨rfl, hb1, a, b, hT, hq⟩; have hA := hT.at))
  rw [HL.out]
  refine finT rfl rfl rfl hT2 ?_ (hb1.trans (hO2.below (Nat.le_refl _) hb1.size))
  cases o with
  | none => exact ⟨_, rfl⟩
  | some q =>
    obtain rfl := hq q rfl
    rfl
set_option maxHeartbeats 4000000 in
theorem ptrig_depth (rd : List UInt8 → Option K) (ws : List (List UInt8)) (B off cap : Nat) (w : World) (hW : TxAt w B off ws) (hws : ws.length ≤ 3000) (hx : ∀ x ∈ ws, x.length ≤ 3000) :
    Calls Tryd.prog 69 #[strV wDepth, .slice (some ⟨B, off, none⟩) ws.length cap] w fun e w' => TgR (trS rd wDepth ws) e ∧ Below w.heap.size w w' := by
  have c1 := fun ta tb => tnum 2 ws B off cap ta tb w hW hws hx
  obtain ⟨z, hz⟩ : ∃ z, z = trS rd wDepth ws := ⟨_, rfl⟩
  rw [← hz]
  have HL : Hid (z = (two ws).map fun p => ⟨2, p.1, p.2, k0, k0⟩) := by unfold Hid; rw [hz]; unfold trS; rw [if_neg (by simp), if_pos rfl]
  clear hW hx hz
  generalize two ws = o at *
  go_enter Tryd.func69, Tryd.ntmps69
  go_wp2_with (first
    | (with_reducible refine wp_tr hA (by with_unfolding_all rfl) ?_)
    | ((with_reducible refine wp_setTr hT (by with_unfolding_all rfl) (by with_unfolding_all rfl) ?_); intro w2 hT2 hO2)
    | (go_at_call 67; (with_reducible refine (c1 _ _).mono ?_); rintro e w1 ⟨rfl, hb1, a, b, hT, hq⟩; have hA := hT.at))
  rw [HL.out]
  refine finT rfl rfl rfl hT2 ?_ (hb1.trans (hO2.below (Nat.le_refl _) hb1.size))
  cases o with
  | none => exact ⟨_, rfl⟩
  | some q =>
    obtain rfl := hq q rfl
    rfl
theorem SpanR.said {o : Option Tr} {T : Nat} {w w' : World} {e : Ending} (h : SpanR o T w e w') : e = .returned (.bool o.isSome) ∧ OnlyQ T w w' ∧ ∃ t, TS w' T t ∧ ∀ q, o = some q → q = t := by
  obtain ⟨h1, h2⟩ := h
  cases o with
  | none =>
    obtain ⟨h3, t, h4⟩ := h2
    exact ⟨h3, h1, t, h4, fun q h => by cases h⟩
  | some t => exact ⟨h2.1, h1, t, h2.2, fun q h => by cases h; rfl⟩
set_option maxHeartbeats 4000000 in
theorem ptrig_span {rd : List UInt8 → Option K} (hrd : RdOk rd) (ws : List (List UInt8)) (B off cap : Nat) (w : World) (hW : TxAt w B off ws) (hB : BdsAt w) (hM : MlAt w) (hcap : ws.length ≤ cap) (hws : ws.length ≤ 3000) (hx : ∀ x ∈ ws, x.length ≤ 3000) (hno : ∀ y ∈ ws, (32 : UInt8) ∉ y) :
    Calls Tryd.prog 69 #[strV wSpan, .slice (some ⟨B, off, none⟩) ws.length cap] w fun e w' => TgR (trS rd wSpan ws) e ∧ Below w.heap.size w w' := by
  have hBl := hW.1
  have c1 := fun ta => (pspan_any hrd ws B off cap w.heap.size _ (tz w ta 3) (hW.below (balloc _) hBl) (by omega) w hB hM (balloc _) (Nat.le_refl _) hcap hws hx hno).mono fun e w' h => h.said
  obtain ⟨z, hz⟩ : ∃ z, z = trS rd wSpan ws := ⟨_, rfl⟩
  rw [← hz]
  have HL : Hid (z = spanS rd ws) := by unfold Hid; rw [hz]; unfold trS; rw [if_neg (by simp), if_neg (by simp), if_pos rfl]
  clear hW hx hB hM hno hrd hz
  generalize spanS rd ws = o at *
  go_enter Tryd.func69, Tryd.ntmps69
  go_wp2_with (first
    | (with_reducible refine wp_tr hA (by with_unfolding_all rfl) ?_)
    | ((with_reducible refine wp_setTr hT (by with_unfolding_all rfl) (by with_unfolding_all rfl) ?_); intro w2 hT2 hO2)
    | (go_at_call 90; (with_reducible refine (c1 _).mono ?_); rintro e w1 ⟨rfl, hO, t, hT, hq⟩; have hA := hT.at))
  rw [HL.out]
  have hb1 := (balloc (w := w) _).trans (hO.below (Nat.le_refl _) (by simp))
  refine finT rfl rfl rfl hT2 ?_ (hb1.trans (hO2.below (Nat.le_refl _) hb1.size))
  cases o with
  | none => exact ⟨_, rfl⟩
  | some q =>
    obtain rfl := hq q rfl
    rfl
set_option maxHeartbeats 4000000 in
theorem ptrig_none (rd : List UInt8 → Option K) (f : List UInt8) (v : Value) (w : World) (h1 : f ≠ wLag) (h2 : f ≠ wDepth) (h3 : f ≠ wSpan) (ws : List (List UInt8)) :
    Calls Tryd.prog 69 #[strV f, v] w fun e w' => TgR (trS rd f ws) e ∧ Below w.heap.size w w' := by
  obtain ⟨z, hz⟩ : ∃ z, z = trS rd f ws := ⟨_, rfl⟩
  rw [← hz]
  have HL : Hid (z = none) := by unfold Hid; rw [hz]; unfold trS; rw [if_neg h1, if_neg h2, if_neg h3]
  clear hz
  have e1 : (f == [108, 97, 103]) = false := by rw [beq_eq_false_iff_ne]; exact h1
  have e2 : (f == [100, 101, 112, 116, 104]) = false := by rw [beq_eq_false_iff_ne]; exact h2
  have e3 : (f == [115, 112, 97, 110]) = false := by rw [beq_eq_false_iff_ne]; exact h3
  clear h1 h2 h3
  go_enter Tryd.func69, Tryd.ntmps69
  go_wp2
  rw [HL.out]
  exact finT rfl rfl rfl (tz w _ 0) ⟨_, rfl⟩ (balloc _)
/-- parseTrigger of any words -/
theorem ptrig_any {rd : List UInt8 → Option K} (hrd : RdOk rd) (f : List UInt8) (ws : List (List UInt8)) (B off cap : Nat) (w : World) (hW : TxAt w B off ws) (hB : BdsAt w) (hM : MlAt w) (hcap : ws.length ≤ cap) (hws : ws.length ≤ 3000) (hx : ∀ x ∈ ws, x.length ≤ 3000) (hno : ∀ y ∈ ws, (32 : UInt8) ∉ y) :
    Calls Tryd.prog 69 #[strV f, .slice (some ⟨B, off, none⟩) ws.length cap] w fun e w' => TgR (trS rd f ws) e ∧ Below w.heap.size w w' := by
  by_cases h1 : f = wLag
  · subst h1; exact ptrig_lag rd ws B off cap w hW hws hx
  · by_cases h2 : f = wDepth
    · subst h2; exact ptrig_depth rd ws B off cap w hW hws hx
    · by_cases h3 : f = wSpan
      · subst h3; exact ptrig_span hrd ws B off cap w hW hB hM hcap hws hx hno
      · exact ptrig_none rd f _ w h1 h2 h3 ws
end Pln
end Go.Proofs.YtcfncgjpbdkagabDoor
