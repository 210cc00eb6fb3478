/- Rows of integers in memory: one number a cell, or two. -/
import Derived.WalkKit
import Derived.Below
namespace Go.Proofs.Ytmogbileofpcfab
namespace Top
open Go.RowKit

def upd (X : Nat → Int) (i : Nat) (x : Int) : Nat → Int := fun j => if j = i then x else X j
theorem upd_same (X : Nat → Int) (i : Nat) (x : Int) : upd X i x i = x := by simp [upd]
theorem upd_other (X : Nat → Int) (i j : Nat) (x : Int) (h : j ≠ i) : upd X i x j = X j := by simp [upd, h]

/-- block G holds n numbers -/
def Row1 (w : World) (G n : Nat) (X : Nat → Int) : Prop := G < w.heap.size ∧ (∀ i, i < n → w.cell? ⟨G, i, none⟩ = some (.int .i64 (X i))) ∧ ∀ j, w.frozen? ⟨G, j, none⟩ = false
/-- block G holds n pairs of numbers -/
def Row2 (w : World) (G n : Nat) (E O : Nat → Int) : Prop := G < w.heap.size ∧ (∀ i, i < n → w.cell? ⟨G, i * 2, none⟩ = some (.int .i64 (E i)) ∧ w.cell? ⟨G, i * 2 + 1, none⟩ = some (.int .i64 (O i))) ∧ ∀ j, w.frozen? ⟨G, j, none⟩ = false

section
variable {w w' : World} {G n : Nat} {X E O : Nat → Int}

theorem Row1.kept (h : Row1 w G n X) (hb : w'.heap[G]? = w.heap[G]?) : Row1 w' G n X := by
  obtain ⟨h0, h1, h2⟩ := h
  refine ⟨?_, fun i hi => ?_, fun j => ?_⟩
  · rw [Array.getElem?_eq_getElem h0] at hb
    exact (Array.getElem?_eq_some_iff.1 hb).1
  · rw [World.cell?_of_block (w := w) (a := ⟨G, i, none⟩) hb]; exact h1 i hi
  · rw [World.frozen?_of_block (w := w) (a := ⟨G, j, none⟩) hb]; exact h2 j
theorem Row2.kept (h : Row2 w G n E O) (hb : w'.heap[G]? = w.heap[G]?) : Row2 w' G n E O := by
  obtain ⟨h0, h1, h2⟩ := h
  refine ⟨?_, fun i hi => ⟨?_, ?_⟩, fun j => ?_⟩
  · rw [Array.getElem?_eq_getElem h0] at hb
    exact (Array.getElem?_eq_some_iff.1 hb).1
  · rw [World.cell?_of_block (w := w) (a := ⟨G, i * 2, none⟩) hb]; exact (h1 i hi).1
  · rw [World.cell?_of_block (w := w) (a := ⟨G, i * 2 + 1, none⟩) hb]; exact (h1 i hi).2
  · rw [World.frozen?_of_block (w := w) (a := ⟨G, j, none⟩) hb]; exact h2 j

theorem Row1.below {B : Nat} (h : Row1 w G n X) (hb : Below B w w') (hG : G < B) : Row1 w' G n X := h.kept (hb.block G hG)
theorem Row2.below {B : Nat} (h : Row2 w G n E O) (hb : Below B w w') (hG : G < B) : Row2 w' G n E O := h.kept (hb.block G hG)
theorem Row1.lt (h : Row1 w G n X) : G < w.heap.size := h.1
theorem Row2.lt (h : Row2 w G n E O) : G < w.heap.size := h.1
theorem Row1.drew (h : Row1 w G n X) : Row1 w.drew G n X := h.kept rfl
theorem Row2.drew (h : Row2 w G n E O) : Row2 w.drew G n E O := h.kept rfl
theorem Row1.alloc (h : Row1 w G n X) (o : Obj) : Row1 (w.alloc o) G n X := h.kept (Below.heap_alloc w o G h.1)
theorem Row2.alloc (h : Row2 w G n E O) (o : Obj) : Row2 (w.alloc o) G n E O := h.kept (Below.heap_alloc w o G h.1)
theorem Row1.apart (h : Row1 w G n X) (a : Addr) (u : Value) (hne : G ≠ a.block) : Row1 (w.setCell a u) G n X := h.kept (Below.heap_setCell w a u G hne)
theorem Row2.apart (h : Row2 w G n E O) (a : Addr) (u : Value) (hne : G ≠ a.block) : Row2 (w.setCell a u) G n E O := h.kept (Below.heap_setCell w a u G hne)
theorem size_setCell (a : Addr) (u : Value) : (w.setCell a u).heap.size = w.heap.size := by simp [World.setCell]

theorem off_ne {a b : Nat} (h : a ≠ b) : (⟨G, a, none⟩ : Addr) ≠ ⟨G, b, none⟩ := fun e => h (by cases e; rfl)

theorem Row1.set (h : Row1 w G n X) {i : Nat} (hi : i < n) (x : Int) : Row1 (w.setCell ⟨G, i, none⟩ (.int .i64 x)) G n (upd X i x) := by
  obtain ⟨h0, h1, h2⟩ := h
  refine ⟨by rw [size_setCell]; exact h0, fun j hj => ?_, fun j => by rw [World.frozen?_setCell]; exact h2 j⟩
  by_cases e : j = i
  · subst e; rw [upd_same]; exact World.cell?_setCell_same _ _ _ (h1 j hj)
  · rw [upd_other _ _ _ _ e, World.cell?_setCell_other (h := off_ne (Ne.symm e))]; exact h1 j hj
theorem Row2.setE (h : Row2 w G n E O) {i : Nat} (hi : i < n) (x : Int) : Row2 (w.setCell ⟨G, i * 2, none⟩ (.int .i64 x)) G n (upd E i x) O := by
  obtain ⟨h0, h1, h2⟩ := h
  refine ⟨by rw [size_setCell]; exact h0, fun j hj => ⟨?_, ?_⟩, fun j => by rw [World.frozen?_setCell]; exact h2 j⟩
  · by_cases e : j = i
    · subst e; rw [upd_same]; exact World.cell?_setCell_same _ _ _ (h1 j hj).1
    · rw [upd_other _ _ _ _ e, World.cell?_setCell_other (h := off_ne (by omega))]; exact (h1 j hj).1
  · rw [World.cell?_setCell_other (h := off_ne (by omega))]; exact (h1 j hj).2
theorem Row2.setO (h : Row2 w G n E O) {i : Nat} (hi : i < n) (x : Int) : Row2 (w.setCell ⟨G, i * 2 + 1, none⟩ (.int .i64 x)) G n E (upd O i x) := by
  obtain ⟨h0, h1, h2⟩ := h
  refine ⟨by rw [size_setCell]; exact h0, fun j hj => ⟨?_, ?_⟩, fun j => by rw [World.frozen?_setCell]; exact h2 j⟩
  · rw [World.cell?_setCell_other (h := off_ne (by omega))]; exact (h1 j hj).1
  · by_cases e : j = i
    · subst e; rw [upd_same]; exact World.cell?_setCell_same _ _ _ (h1 j hj).2
    · rw [upd_other _ _ _ _ e, World.cell?_setCell_other (h := off_ne (by omega))]; exact (h1 j hj).2

theorem Row1.ext (h : Row1 w G n X) {Y : Nat → Int} (e : ∀ i, i < n → Y i = X i) : Row1 w G n Y := ⟨h.1, fun i hi => by rw [e i hi]; exact h.2.1 i hi, h.2.2⟩

/-- a row of numbers that was made just now -/
theorem Row1.of_owns {base cap : Nat} {e : TypeId} {xs : List Value} (h : w.ownsRow base e 1 (.slice (some ⟨G, 0, none⟩) n cap) n xs) (hx : ∀ i, i < n → xs[i]? = some (.int .i64 (X i))) : Row1 w G n X :=
  ⟨(h.lt G rfl).2, fun i hi => by rw [h.cellAt i (by omega)]; exact hx i hi, fun j => h.frozenAt j⟩
theorem Row2.of_owns {base cap : Nat} {e : TypeId} {xs : List Value} (h : w.ownsRow base e 2 (.slice (some ⟨G, 0, none⟩) n cap) n xs)
    (hx : ∀ i, i < n → xs[i * 2]? = some (.int .i64 (E i)) ∧ xs[i * 2 + 1]? = some (.int .i64 (O i))) : Row2 w G n E O :=
  ⟨(h.lt G rfl).2, fun i hi => ⟨by rw [h.cellAt (i * 2) (by omega)]; exact (hx i hi).1, by rw [h.cellAt (i * 2 + 1) (by omega)]; exact (hx i hi).2⟩, fun j => h.frozenAt j⟩
end
end Top
end Go.Proofs.Ytmogbileofpcfab
