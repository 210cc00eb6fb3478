/- Package topic's functions once more, told by the topic's state. -/
import Derived.Test.YtmogbileofpcfabTopWalks3
namespace Go.Proofs.Ytmogbileofpcfab
namespace Top
open Go.RowKit
set_option maxRecDepth 8000

/-- nothing but block G has turned -/
structure Only (G : Nat) (w w' : World) : Prop where
  os : w'.os = w.os
  tape : w'.tape = w.tape
  output : w'.output = w.output
  size : w'.heap.size = w.heap.size
  block : ∀ k, k ≠ G → w'.heap[k]? = w.heap[k]?

section
variable {w w' : World} {G T n : Nat} {X E O : Nat → Int}
theorem Only.below (h : Only G w w') {B : Nat} (hB : B ≤ G) : Below B w w' := ⟨h.os, h.tape, h.output, Nat.le_of_eq h.size.symm, fun k hk => h.block k (by omega)⟩
theorem Only.refl (G : Nat) (w : World) : Only G w w := ⟨rfl, rfl, rfl, rfl, fun _ _ => rfl⟩
theorem Only.set (w : World) (a : Addr) (u : Value) (h : a.block = G) : Only G w (w.setCell a u) := ⟨rfl, rfl, rfl, size_setCell a u, fun k hk => Below.heap_setCell w a u k (by omega)⟩
theorem Only.drew_set (w : World) (a : Addr) (u : Value) (h : a.block = G) : Only G w (w.drew.setCell a u) := ⟨rfl, rfl, rfl, size_setCell (w := w.drew) a u, fun k hk => Below.heap_setCell w.drew a u k (by omega)⟩
theorem Row1.only (h : Row1 w T n X) (g : Only G w w') (hne : T ≠ G) : Row1 w' T n X := h.kept (g.block T hne)
theorem Row2.only (h : Row2 w T n E O) (g : Only G w w') (hne : T ≠ G) : Row2 w' T n E O := h.kept (g.block T hne)

theorem TopAt.kept (h : TopAt w T G n E O) (h1 : w'.heap[T]? = w.heap[T]?) (h2 : w'.heap[G]? = w.heap[G]?) : TopAt w' T G n E O := by
  obtain ⟨a, b, c, d⟩ := h
  refine ⟨a, ?_, ?_, d.kept h2⟩
  · rw [Array.getElem?_eq_getElem b] at h1
    exact (Array.getElem?_eq_some_iff.1 h1).1
  · rw [World.cell?_of_block (w := w) (a := ⟨T, 0, none⟩) h1]; exact c
theorem TopAt.below {B : Nat} (h : TopAt w T G n E O) (hb : Below B w w') (hT : T < B) (hG : G < B) : TopAt w' T G n E O := h.kept (hb.block T hT) (hb.block G hG)
theorem TopAt.only {g : Nat} (h : TopAt w T G n E O) (hb : Only g w w') (hT : T ≠ g) (hG : G ≠ g) : TopAt w' T G n E O := h.kept (hb.block T hT) (hb.block G hG)
theorem below_drewN {B : Nat} (h : Below B w w') (q : Nat) : Below B w (w'.drewN q) := ⟨h.os, h.tape, h.output, h.size, h.block⟩
theorem TopAt.drewN (h : TopAt w T G n E O) (q : Nat) : TopAt (w.drewN q) T G n E O := h.kept rfl rfl
end

theorem topMake (T G n i : Nat) (x : Int) (E O : Nat → Int) (w : World) (hA : TopAt w T G n E O) (hi : i < n) (h1 : 1 ≤ x ∧ x ≤ 100000) (hv : 0 ≤ E i ∧ E i ≤ 100000000) :
    Calls Try.prog 6 #[.pointer (some ⟨T, 0, none⟩), .int .i64 (i : Int), .int .i64 x] w fun e w' => e = .returned (.int .i64 0) ∧ TopAt w' T G n (upd E i (E i + x)) O ∧ Only G w w' := by
  obtain ⟨a, b, c, d⟩ := hA
  refine (make_yes T G n i x (E i) w c hi h1 (d.2.1 i hi).1 (d.2.2 _) hv).mono ?_
  rintro e w' ⟨rfl, rfl⟩
  have o := Only.drew_set (G := G) w ⟨G, i * 2, none⟩ (.int .i64 (E i + x)) rfl
  refine ⟨rfl, ⟨a, by rw [o.size]; exact b, ?_, (d.drew).setE hi _⟩, o⟩
  rw [World.cell?_of_block (w := w) (a := ⟨T, 0, none⟩) (o.block T a)]; exact c
theorem topTake (T G n i : Nat) (x : Int) (E O : Nat → Int) (w : World) (hA : TopAt w T G n E O) (hi : i < n) (h1 : O i ≤ x) (h2 : x ≤ E i) :
    Calls Try.prog 8 #[.pointer (some ⟨T, 0, none⟩), .int .i64 (i : Int), .int .i64 x] w fun e w' => e = .returned (.int .i64 0) ∧ TopAt w' T G n E (upd O i x) ∧ Only G w w' := by
  obtain ⟨a, b, c, d⟩ := hA
  refine (take_yes T G n i x (E i) (O i) w c hi h1 h2 (d.2.1 i hi).1 (d.2.1 i hi).2 (d.2.2 _)).mono ?_
  rintro e w' ⟨rfl, rfl⟩
  have o := Only.set (G := G) w ⟨G, i * 2 + 1, none⟩ (.int .i64 x) rfl
  refine ⟨rfl, ⟨a, by rw [o.size]; exact b, ?_, d.setO hi _⟩, o⟩
  rw [World.cell?_of_block (w := w) (a := ⟨T, 0, none⟩) (o.block T a)]; exact c
theorem topTake_no (T G n i : Nat) (x : Int) (E O : Nat → Int) (w : World) (hA : TopAt w T G n E O) (hi : i < n) (h : ¬ (O i ≤ x ∧ x ≤ E i)) :
    Calls Try.prog 8 #[.pointer (some ⟨T, 0, none⟩), .int .i64 (i : Int), .int .i64 x] w fun e w' => e = .returned (.int .i64 1) ∧ w' = w :=
  take_arg T G n i x (E i) (O i) w hA.2.2.1 hi h (hA.2.2.2.2.1 i hi).1 (hA.2.2.2.2.1 i hi).2

/-- what stands at the head of the sum's law: a topic of two, five made, three taken -/
def two (x : Int) : Nat → Int := upd (fun _ => 0) 1 x
theorem two_lags : ∀ i, i < 2 → dif (two (0 + 5)) (two 3) i = (if i = 0 then 0 else 2) := by
  intro i hi
  have : i = 0 ∨ i = 1 := by omega
  rcases this with rfl | rfl <;> simp [dif, two, upd]
theorem two_bd : ∀ i, i < 2 → 0 ≤ two 3 i ∧ two 3 i ≤ two (0 + 5) i ∧ two (0 + 5) i ≤ 100000000 := by
  intro i hi
  have : i = 0 ∨ i = 1 := by omega
  rcases this with rfl | rfl <;> simp [two, upd]
theorem run_made (w : World) (n : Nat) (h : n ≤ 20) : (Instr.makeSlice 29 (.int .i64 (n : Int)) (.int .i64 (n : Int))).run Try.prog w = .ok (.slice (some ⟨w.heap.size, 0, none⟩) n n) (w.alloc (.cells (madeCells #[.int .i64 0] n) 3)) := by
  obtain ⟨i, hi, hz0, hz1, hz2⟩ := info_parts info_int
  have hr := run_make (P := Try.prog) w 29 3 i _ Try.underlying29 hi hz0 .i64 .i64 (n : Int) (n : Int) (by omega) (Int.le_refl _) (by rw [hz2]; omega) (by omega)
  rw [hz1, Nat.mul_one, Int.toNat_natCast] at hr
  exact hr
theorem made_row (w : World) (e : TypeId) (n : Nat) : Row1 (w.alloc (.cells (madeCells #[.int .i64 0] n) e)) w.heap.size n (fun _ => 0) := by
  refine ⟨by simp, fun i hi => ?_, fun j => by simp⟩
  have := made1 n i hi
  simpa using this
theorem two_rows (w : World) (n : Nat) : Row1 ((w.drew.alloc (.cells (madeCells #[.int .i64 0] n) 3)).alloc (.cells (madeCells #[.int .i64 0] n) 3)) w.heap.size n (fun _ => 0) ∧
    Row1 ((w.drew.alloc (.cells (madeCells #[.int .i64 0] n) 3)).alloc (.cells (madeCells #[.int .i64 0] n) 3)) (w.heap.size + 1) n (fun _ => 0) ∧
    Below w.heap.size w ((w.drew.alloc (.cells (madeCells #[.int .i64 0] n) 3)).alloc (.cells (madeCells #[.int .i64 0] n) 3)) := by
  refine ⟨(made_row w.drew 3 n).alloc _, ?_, (((Below.refl _ _).drew).alloc (Nat.le_refl _) _).alloc (by simp) _⟩
  have := made_row (w.drew.alloc (.cells (madeCells #[.int .i64 0] n) 3)) 3 n
  simpa using this
theorem pair_row (w : World) (e : TypeId) (a b : Int) : Row1 (w.alloc (.cells #[.int .i64 a, .int .i64 b] e)) w.heap.size 2 (fun i => if i = 0 then a else b) := by
  refine ⟨by simp, fun i hi => ?_, fun j => ?_⟩
  · have : i = 0 ∨ i = 1 := by omega
    rcases this with rfl | rfl <;> simp
  · simp
end Top
end Go.Proofs.Ytmogbileofpcfab
