
/- Who may run, as a list of numbers: plain mathematics. -/
import Derived.Test.YtkflelbpiabcpagHallRun
namespace Go.Proofs.Ytkflelbpiabcpag
namespace Buf
open Go.RowKit Rw Rec

/-- the numbers of those of the first k that may run -/
def mayL (L : List Rq) : Nat → List Int
  | 0 => []
  | k + 1 => mayL L k ++ (match L[k]? with | some r => if runOk L k r then [(k : Int) + 1] else [] | none => [])
theorem mayL_step {L : List Rq} {k : Nat} {r : Rq} (h : L[k]? = some r) : mayL L (k + 1) = mayL L k ++ if runOk L k r then [(k : Int) + 1] else [] := by
  show mayL L k ++ _ = _
  rw [h]
theorem mayL_le (L : List Rq) (k : Nat) : (mayL L k).length ≤ k := by
  induction k with
  | zero => simp [mayL]
  | succ k ih =>
    have : (mayL L (k + 1)).length ≤ (mayL L k).length + 1 := by
      show (mayL L k ++ _).length ≤ _
      rw [List.length_append]
      cases h : L[k]? with
      | none => simp
      | some r => cases hr : runOk L k r <;> simp [hr]
    omega
theorem mem_mayL (L : List Rq) (k : Nat) (x : Int) : x ∈ mayL L k ↔ ∃ (i : Nat) (r : Rq), i < k ∧ L[i]? = some r ∧ runOk L i r = true ∧ x = (i : Int) + 1 := by
  induction k with
  | zero => simp [mayL]
  | succ k ih =>
    show x ∈ mayL L k ++ _ ↔ _
    rw [List.mem_append, ih]
    constructor
    · rintro (⟨i, r, h1, h2, h3, h4⟩ | h)
      · exact ⟨i, r, by omega, h2, h3, h4⟩
      · cases hk : L[k]? with
        | none => rw [hk] at h; simp at h
        | some r =>
          rw [hk] at h
          cases hr : runOk L k r with
          | false => simp [hr] at h
          | true => simp [hr] at h; exact ⟨k, r, by omega, hk, hr, h⟩
    · rintro ⟨i, r, h1, h2, h3, h4⟩
      by_cases e : i = k
      · subst e
        refine Or.inr ?_
        rw [h2]
        simp [h3, h4]
      · exact Or.inl ⟨i, r, by omega, h2, h3, h4⟩
theorem mayL_mem {L : List Rq} {i : Nat} {r : Rq} (hr : L[i]? = some r) : (((i : Int) + 1) ∈ mayL L L.length) ↔ runOk L i r = true := by
  rw [mem_mayL]
  constructor
  · rintro ⟨j, x, h1, h2, h3, h4⟩
    have : j = i := by omega
    subst this
    rw [hr] at h2; cases h2
    exact h3
  · intro h
    exact ⟨i, r, (List.getElem?_eq_some_iff.1 hr).1, hr, h, rfl⟩
theorem mayL_more (L : List Rq) (k n : Nat) : ∃ l, mayL L (k + n) = mayL L k ++ l := by
  induction n with
  | zero => exact ⟨[], by simp⟩
  | succ n ih =>
    obtain ⟨l, hl⟩ := ih
    refine ⟨l ++ (match L[k + n]? with | some r => if runOk L (k + n) r then [((k + n : Nat) : Int) + 1] else [] | none => []), ?_⟩
    show mayL L (k + n) ++ _ = _
    rw [show mayL L (k + n) = mayL L k ++ l from hl, List.append_assoc]
    rfl
/-- the first of them is the next one -/
theorem may_next (L : List Rq) : (mayL L L.length = [] ∧ nextN L = 0 ∧ nextB L = false) ∨ ∃ x l, mayL L L.length = x :: l ∧ nextN L = x ∧ nextB L = true := by
  cases hf : L.findIdx? (mayRun L) with
  | none =>
    refine Or.inl ⟨?_, by unfold nextN; rw [hf], by unfold nextB; rw [hf]; rfl⟩
    rw [List.findIdx?_eq_none_iff] at hf
    rw [List.eq_nil_iff_forall_not_mem]
    intro x hx
    obtain ⟨i, r, h1, h2, h3, _⟩ := (mem_mayL _ _ _).1 hx
    unfold runOk at h3
    rw [Bool.and_eq_true] at h3
    have := hf r (List.mem_of_getElem? h2)
    rw [h3.1] at this
    cases this
  | some i =>
    obtain ⟨hi, hp, hno⟩ := List.findIdx?_eq_some_iff_getElem.1 hf
    have hr : L[i]? = some L[i] := by simp
    have hok : runOk L i L[i] = true := by
      unfold runOk
      rw [hp, Bool.true_and, List.all_eq_true]
      intro x hx
      obtain ⟨j, hj, rfl⟩ := List.mem_take_iff_getElem.1 hx
      have hj2 : j < i := by omega
      have h1 := hno j hj2
      cases hc : (!(L[j].src == L[i].src && L[j].fat == 1)) with
      | true => rfl
      | false =>
        simp at hc
        obtain ⟨c1, c2⟩ := hc
        unfold mayRun at hp h1
        rw [Bool.and_eq_true] at hp
        rw [c1, c2] at h1
        simp at h1
        exact absurd (by simpa using hp.2) h1
    have h0 : mayL L i = [] := by
      rw [List.eq_nil_iff_forall_not_mem]
      intro x hx
      obtain ⟨j, r, h1, h2, h3, _⟩ := (mem_mayL _ _ _).1 hx
      unfold runOk at h3
      rw [Bool.and_eq_true] at h3
      have h4 := hno j h1
      have : L[j]'(by omega) = r := by
        rw [List.getElem?_eq_getElem (by omega)] at h2
        exact Option.some.inj h2
      rw [this, h3.1] at h4
      exact absurd rfl h4
    obtain ⟨l, hl⟩ := mayL_more L (i + 1) (L.length - (i + 1))
    rw [show i + 1 + (L.length - (i + 1)) = L.length by omega, mayL_step hr, h0, hok] at hl
    exact Or.inr ⟨(i : Int) + 1, l, by simpa using hl, by unfold nextN; rw [hf], by unfold nextB; rw [hf]; rfl⟩

/-- sources that are barred: first those of which one runs, then those of which one that waits was met -/
def bar1 (L : List Rq) (k : Nat) (s : Int) : Bool := (L.take k).any (fun x => x.src == s && x.fat == 2)
def bar2 (L : List Rq) (k : Nat) (s : Int) : Bool := L.any (fun x => x.src == s && x.fat == 2) || (L.take k).any (waitsOf s)
theorem bar1_step {L : List Rq} {k : Nat} {r : Rq} (h : L[k]? = some r) (s : Int) : bar1 L (k + 1) s = (bar1 L k s || (r.src == s && r.fat == 2)) := by
  unfold bar1
  rw [List.take_add_one, h, List.any_append]
  simp
theorem bar2_step {L : List Rq} {k : Nat} {r : Rq} (h : L[k]? = some r) (s : Int) : bar2 L (k + 1) s = (bar2 L k s || (r.src == s && r.fat == 1)) := by
  unfold bar2
  rw [List.take_add_one, h, List.any_append, Bool.or_assoc]
  simp [waitsOf]
theorem bar_mid (L : List Rq) (s : Int) : bar2 L 0 s = bar1 L L.length s := by
  unfold bar2 bar1
  simp
theorem runOk_bar (L : List Rq) (k : Nat) (r : Rq) (hs : 0 ≤ r.src) : runOk L k r = (r.fat == 1 && !(bar2 L k r.src)) := by
  have e : (many r.src 2 L == 0) = !(L.any (fun x => x.src == r.src && x.fat == 2)) := by
    unfold many
    have h1 : isOf r.src 2 = (fun x => x.src == r.src && x.fat == 2) := by
      funext x
      unfold isOf
      have : (r.src == -1) = false := by rw [beq_eq_false_iff_ne]; omega
      rw [this, Bool.false_or]
    rw [h1]
    cases h : L.any (fun x => x.src == r.src && x.fat == 2) with
    | true =>
      rw [List.any_eq_true] at h
      rw [Bool.not_true, beq_eq_false_iff_ne]
      intro h0
      rw [List.countP_eq_zero] at h0
      obtain ⟨x, hx, hp⟩ := h
      exact h0 x hx hp
    | false =>
      rw [Bool.not_false, beq_iff_eq, List.countP_eq_zero]
      intro x hx hp
      rw [List.any_eq_false] at h
      exact h x hx hp
  unfold runOk mayRun bar2
  rw [e, Bool.not_or, Bool.and_assoc]
  congr 2
  rw [List.all_eq_not_any_not]
  congr 2
  funext x
  simp [waitsOf]
/-- a row of six bools -/
structure BarAt (w : World) (N : Nat) (f : Int → Bool) : Prop where
  lt : N < w.heap.size
  c : ∀ s : Nat, s < 6 → w.cell? ⟨N, s, none⟩ = some (.bool (f s))
  fz : ∀ j, w.frozen? ⟨N, j, none⟩ = false
theorem BarAt.kept {w w' : World} {N : Nat} {f : Int → Bool} (h : BarAt w N f) (hb : w'.heap[N]? = w.heap[N]?) : BarAt w' N f :=
  ⟨Rec.lt_of_block h.lt hb, fun s hs => (World.cell?_of_block (w := w) (a := ⟨N, s, none⟩) hb).trans (h.c s hs), fun j => (World.frozen?_of_block (w := w) (a := ⟨N, j, none⟩) hb).trans (h.fz j)⟩
theorem BarAt.below {w w' : World} {N : Nat} {f : Int → Bool} (h : BarAt w N f) (hb : Below w.heap.size w w') : BarAt w' N f := h.kept (hb.block N h.lt)
theorem BarAt.set {w : World} {N s : Nat} {f f' : Int → Bool} (h : BarAt w N f) (hs : s < 6) (hf : ∀ t : Nat, f' t = (f t || ((s : Int) == (t : Int)))) : BarAt (w.setCell ⟨N, s, none⟩ (.bool true)) N f' := by
  refine ⟨by simpa using h.lt, fun t ht => ?_, fun j => by rw [World.frozen?_setCell]; exact h.fz j⟩
  by_cases e : t = s
  · subst e
    rw [hf t]
    simp only [beq_self_eq_true, Bool.or_true]
    exact World.cell?_setCell_same _ _ _ (h.c t ht)
  · have e2 : ((s : Int) == (t : Int)) = false := by rw [beq_eq_false_iff_ne]; omega
    rw [hf t, e2, Bool.or_false, World.cell?_setCell_other (h := fun e' => e (congrArg Addr.off e').symm)]
    exact h.c t ht
theorem BarAt.same {w : World} {N : Nat} {f f' : Int → Bool} (h : BarAt w N f) (hf : ∀ t : Nat, f' t = f t) : BarAt w N f' := ⟨h.lt, fun s hs => by rw [hf]; exact h.c s hs, h.fz⟩
end Buf
end Go.Proofs.Ytkflelbpiabcpag
