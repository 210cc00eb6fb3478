/- The law's two maps: till when, and what is done; how many are lent (tidekeep.taken). -/
import Derived.Test.YtbfnjjdgiihngafQueAll
import Derived.Test.YtbfnjjdgiihngafOncePlain
import Derived.Maps.OwnOps
import Derived.Maps.OwnSet
import Derived.Maps.RangeWalk
namespace Go.Proofs.Ytbfnjjdgiihngaf
namespace Que
open Go.RowKit Go.Maps
set_option maxRecDepth 8000

theorem law3 : Keyed Try.prog 3 := int_keyed Try.underlying3
abbrev k64 (i : Int) : Lit := .int .i64 i
abbrev d64 (i : Int) : DataW Unit := .lit (.int .i64 i)
/-- the map of times reads as f -/
def Tells (D : DataW Unit) (f : Int → Int) : Prop := ∀ i, D.atKey (k64 i) (d64 0) = d64 (f i)
/-- the map of what is done has just the keys S, c of them -/
def Has (D : DataW Unit) (S : Int → Bool) (c : Nat) : Prop := (∀ i, Maps.has D (k64 i) = S i) ∧ Maps.size D = c
theorem k64_ne {i j : Int} (h : i ≠ j) : k64 i ≠ k64 j := fun e => h (by injection e)
theorem k64_same (i : Int) : (k64 i).sameKey (k64 i) = true := by simp [Lit.sameKey]
theorem wf_of {i : Int} (h : -9223372036854775808 ≤ i ∧ i ≤ 9223372036854775807) : (Lit.int .i64 i).wf = true := WalkArith.wf_i64 (by omega)
theorem key_of {i : Int} (h : -9223372036854775808 ≤ i ∧ i ≤ 9223372036854775807) : keyOf Try.prog 3 (.int .i64 i) = some (k64 i) := keyOf_int_mk Try.underlying3 (wf_of h)
theorem zero3 (w : World) : (zeroValue 3).run Try.prog w = .ok (.int .i64 0) w := by kernel_rfl
theorem zero4 (w : World) : (zeroValue 4).run Try.prog w = .ok (.bool false) w := by kernel_rfl

theorem tells_empty : Tells (.map []) (fun _ => 0) := fun _ => rfl
theorem has_empty : Has (.map []) (fun _ => false) 0 := ⟨fun _ => rfl, rfl⟩
theorem tells_put {D : DataW Unit} {f : Int → Int} {i x : Int} (h : Tells D f) (hD : IsMap D) : Tells (D.put (k64 i) (d64 x)) (upd f i x) := by
  intro j
  by_cases e : j = i
  · subst e; rw [upd_same]; exact atKey_put_same (k := k64 j) hD trivial _ _
  · rw [upd_other _ _ _ _ e, atKey_put_other (k64_ne e)]; exact h j
theorem tells_del {D : DataW Unit} {f : Int → Int} {i : Int} (h : Tells D f) : Tells (D.del (k64 i)) (upd f i 0) := by
  intro j
  by_cases e : j = i
  · subst e; rw [upd_same]; exact atKey_del_same _
  · rw [upd_other _ _ _ _ e, atKey_del_other (k64_ne e)]; exact h j
theorem has_put {D : DataW Unit} {S : Int → Bool} {c : Nat} {i : Int} {d : DataW Unit} (h : Has D S c) (hD : Tidy D) (hi : S i = false) : Has (D.put (k64 i) d) (fun j => if j = i then true else S j) (c + 1) := by
  refine ⟨fun j => ?_, ?_⟩
  · dsimp only
    by_cases e : j = i
    · subst e; rw [if_pos rfl]; exact has_put_same (k := k64 j) hD.isMap trivial _
    · rw [if_neg e, has_put_other (k64_ne e)]; exact h.1 j
  · rw [size_put hD, h.1 i, hi, h.2]; simp

/-- the look-ups, as the walk meets them -/
theorem look_t {w : World} {b n : Nat} {D : DataW Unit} {f : Int → Int} (h : w.ownsMap Try.prog 3 (plainElem (H := Unit) Try.prog 3) b n D) (hf : Tells D f) {i : Int} (hi : -9223372036854775808 ≤ i ∧ i ≤ 9223372036854775807) :
    (Instr.lookup 36 (.map (some b)) (.int .i64 i) false).run Try.prog w = .ok (.int .i64 (f i)) w := by
  obtain ⟨c, hr, hat, _⟩ := h.lookup_int law3 Try.underlying36 Try.underlying3 (zero3 w) (key_of hi)
  rw [hf i] at hat
  have : f i = c := by injection hat with e; injection e
  rw [this]; exact hr
theorem look_d {w : World} {b n c : Nat} {D : DataW Unit} {S : Int → Bool} (h : w.ownsMap Try.prog 3 (plainElem (H := Unit) Try.prog 4) b n D) (hS : Has D S c) {i : Int} (hi : -9223372036854775808 ≤ i ∧ i ≤ 9223372036854775807) (hn : S i = false) :
    (Instr.lookup 37 (.map (some b)) (.int .i64 i) false).run Try.prog w = .ok (.bool false) w := by
  obtain ⟨v, ps, hr, hv⟩ := h.lookup law3 Try.underlying37 (zero4 w) (plainElem_bool Try.underlying4 false) (key_of hi)
  have h0 : Maps.has D (k64 i) = false := by rw [hS.1 i, hn]
  rw [atKey_of_not_has h0] at hv
  have : v = .bool false := by
    simp only [plainElem, Try.underlying4] at hv
    cases v <;> simp at hv
    rw [hv.1]
  rw [← this]; exact hr
theorem len_d {w : World} {b n c : Nat} {D : DataW Unit} {S : Int → Bool} (h : w.ownsMap Try.prog 3 (plainElem (H := Unit) Try.prog 4) b n D) (hS : Has D S c) (ty : TypeId) : (Builtin.len_ #[37] ty #[.map (some b)]).run Try.prog w = .ok (.int .i64 (c : Int)) w := by
  rw [← hS.2]; exact h.len Try.underlying37 ty
/-- a map and a queue lie apart -/
theorem map_apart {w : World} {e : TypeId} {B Q oN oS b n : Nat} {last : Int} {v : Value} {L : List M} {R : Value → Option (DataW Unit × List MemPlace)} {D : DataW Unit} (hQ : QAt w e B Q oN oS last v L) (h : w.ownsMap Try.prog 3 R b n D) : b ≠ Q ∧ v.ownBlock ≠ some b := by
  obtain ⟨es, clock, hb, _⟩ := h
  refine ⟨fun e => ?_, fun e => ?_⟩
  · have := hQ.cN; subst e; simp [World.cell?, hb] at this
  · rcases hQ.own.2 with ⟨a, _⟩ | ⟨g, cap, cur, a, _, hg, _⟩
    · rw [a] at e; simp [Value.ownBlock] at e
    · rw [a] at e; simp [Value.ownBlock] at e; subst e; rw [hb] at hg; cases hg
theorem map_turn {w w' : World} {e : TypeId} {B Q oN oS b n : Nat} {last : Int} {v v' : Value} {L : List M} {R : Value → Option (DataW Unit × List MemPlace)} {D : DataW Unit} (hQ : QAt w e B Q oN oS last v L) (h : w.ownsMap Try.prog 3 R b n D) (t : Turn Q v v' w w') : w'.ownsMap Try.prog 3 R b n D := by
  obtain ⟨h1, h2⟩ := map_apart hQ h
  have hl := h.lt
  obtain ⟨es, clock, hb, F, hs, hD⟩ := h
  exact ⟨es, clock, (t.block b hl h1 (fun e => h2 e.symm)).trans hb, F, hs, hD⟩
theorem queue_map {w w' : World} {e : TypeId} {B Q oN oS b n : Nat} {last : Int} {v : Value} {L : List M} {R : Value → Option (DataW Unit × List MemPlace)} {D : DataW Unit} (hQ : QAt w e B Q oN oS last v L) (h : w.ownsMap Try.prog 3 R b n D) (g : w.grownBy w' (some b)) : QAt w' e B Q oN oS last v L := by
  obtain ⟨h1, h2⟩ := map_apart hQ h
  exact hQ.kept (g.block Q hQ.lt (fun e => h1 (by cases e; rfl))) (fun x hx => g.block x (hQ.rowLt x hx) (fun e => h2 (by cases e; exact hx)))

def TkR (N bT c0 : Nat) (DT : DataW Unit) (l : List Int) (w : World) (nv : Value) (wr : World) : Prop :=
  ∃ (left : Lit → Bool) (cnt c : Nat), nv = .int .i64 (c : Int) ∧ wr.ranges Try.prog 3 (plainElem (H := Unit) Try.prog 3) bT N c0 DT left cnt ∧ c + cnt ≤ c0 ∧ l.countP (fun i => !left (k64 i)) ≤ c ∧ Below w.heap.size w wr
theorem tk_step {l : List Int} {left : Lit → Bool} {x : Int} (hn : l.Nodup) : l.countP (fun i => !(left (k64 i) && !(k64 i).sameKey (k64 x))) ≤ l.countP (fun i => !left (k64 i)) + (if x ∈ l then 1 else 0) := by
  have := count_strike (fun i => !left (k64 i)) x l hn
  refine Nat.le_trans (Nat.le_of_eq ?_) this
  congr 1
  funext i
  by_cases e : i = x
  · subst e; rw [k64_same]; simp
  · rw [sameKey_ne (k64_ne e)]; simp [e]
set_option maxHeartbeats 4000000 in
theorem taken_any (w : World) (bT c0 : Nat) (DT : DataW Unit) (f : Int → Int) (l : List Int) (now : Int) (hown : w.ownsMap Try.prog 3 (plainElem (H := Unit) Try.prog 3) bT c0 DT) (hf : Tells DT f) (hc : c0 ≤ 1000) (hl : l.Nodup) (h0 : 0 ≤ now) (hlt : ∀ i ∈ l, now < f i) :
    Calls Try.prog 14 #[.map (some bT), .int .i64 now] w fun e w' => ∃ r : Nat, e = .returned (.int .i64 (r : Int)) ∧ l.length ≤ r ∧ r ≤ 1000 ∧ Below w.heap.size w w' := by
  have hhas : ∀ i ∈ l, Maps.has DT (k64 i) = true := by
    intro i hi
    cases h : Maps.has DT (k64 i) with
    | true => rfl
    | false =>
      have h1 := atKey_of_not_has h (d64 0)
      rw [hf i] at h1
      have h2 := hlt i hi
      have : f i = 0 := by injection h1 with e; injection e
      omega
  have hz := hown.size_le
  go_enter Try.func14, Try.ntmps14
  go_wp2_with (first
    | (at_range; refine wpList_range_own _ rfl _ 36 rfl 3 3 law3 Try.underlying36 _ bT c0 _ rfl hown ?_; intro w0 hrg0 hg0 hs0)
    | go_in)
  go_frame
  go_loopw [5] (fun nv wr => TkR w.heap.size bT c0 DT l w nv wr) (fun _ wr => wr.rangeLeft bT w.heap.size)
  case atStart =>
    refine ⟨_, _, 0, rfl, hrg0, by omega, ?_, (Below.refl _ _).grown hg0 (Nat.le_refl _) (fun _ h => by cases h)⟩
    rw [Nat.le_zero, List.countP_eq_zero]
    intro i hi
    simp [hhas i hi]
  case round =>
    clear hrg0 hg0 hs0
    obtain ⟨left, cnt, c, rfl, hrg, hcc, hcl, hbw⟩ := hrel
    go_wp2_with (first
      | (at_next; refine wpList_next_ranges_ii _ rfl _ rfl 3 3 .i64 .i64 law3 Try.underlying3 Try.underlying3 bT w.heap.size c0 _ _ _ rfl hrg ?_ ?_)
      | go_in)
    · intro hc0 hl0
      go_wp2
      go_ret
      refine ⟨c, rfl, ?_, by omega, hbw⟩
      refine Nat.le_trans (Nat.le_of_eq ?_) hcl
      rw [eq_comm, List.countP_eq_length]
      intro i _
      simp [hl0]
    · intro x t w1 cnt1 hwx hwt hlx hat hrg1 hltc hg1 hs1 hen
      have hb1 : Below w.heap.size w w1 := hbw.grown hg1 hbw.size (fun j hj => by cases hj; exact Nat.le_refl _)
      have hst := tk_step (left := left) (x := x) hl
      have hxt : x ∈ l → now < t := by
        intro hx
        have h1 := hat (d64 0)
        rw [hf x] at h1
        have h2 := hlt x hx
        have : f x = t := by injection h1 with e; injection e
        omega
      have HL : Hid (TkR w.heap.size bT c0 DT l w (.int .i64 (c : Int)) w1 ∨ now < t) := by
        by_cases ht : now < t
        · exact Or.inr ht
        · refine Or.inl ⟨_, cnt1, c, rfl, hrg1, by omega, ?_, hb1⟩
          have hx : ¬ x ∈ l := fun h => ht (hxt h)
          rw [if_neg hx] at hst
          exact Nat.le_trans hst hcl
      have HG : Hid (TkR w.heap.size bT c0 DT l w (.int .i64 ((c + 1 : Nat) : Int)) w1) := by
        refine ⟨_, cnt1, c + 1, rfl, hrg1, by omega, ?_, hb1⟩
        have h1 : (if x ∈ l then 1 else 0) ≤ 1 := by split <;> omega
        exact Nat.le_trans hst (Nat.add_le_add hcl h1)
      have hme : w1.rangeLeft bT w.heap.size < wr.rangeLeft bT w.heap.size := by rw [hrg1.left_eq, hrg.left_eq]; exact hltc
      clear hst hat hlx
      by_cases ht : now < t
      · go_wp2
        go_roundw
        case rel => exact HG.out
        case measure => exact hme
      · go_wp2
        go_roundw
        case rel => exact HL.out.resolve_right ht
        case measure => exact hme
end Que
end Go.Proofs.Ytbfnjjdgiihngaf
