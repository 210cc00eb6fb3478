/- Records in a row behind a pointer's block: how they lie, what a call turns. Laws of append, clear and copy over rows whose records have several cells. -/
import Derived.Test.YtbnnplfmhmmbnacGreatDoorPkRowMem
import Derived.Laws.OwnMore
import Derived.Maps.AppendAt
import Derived.Deep.Quiet
import Derived.Deep.RegionLaw
namespace Go.Proofs.YtbnnplfmhmmbnacGreatDoor
namespace Rec
open Go.RowKit Rw

/-- how a record lies: its cells -/
structure Kd (α : Type) where
  c : α → List Value
  s : Nat
  len : ∀ m, (c m).length = s
  one : ∀ m u, u ∈ c m → u.oneCell' = true
  pos : 0 < s

section plain
variable {α : Type} (K : Kd α)
theorem cels_one (L : List α) : ∀ u ∈ cels K.c L, u.oneCell' = true := by
  induction L with
  | nil => intro u hu; cases hu
  | cons m L ih =>
    intro u hu
    rcases List.mem_append.1 hu with h | h
    · exact K.one m u h
    · exact ih u h
theorem cels_set (L : List α) (i j : Nat) (m m' : α) (u : Value) (hm : L[i]? = some m) (hj : j < K.s) (hc : K.c m' = (K.c m).set j u) : cels K.c (L.set i m') = (cels K.c L).set (i * K.s + j) u := by
  induction L generalizing i with
  | nil => simp at hm
  | cons x L ih =>
    cases i with
    | zero =>
      simp at hm; subst hm
      simp only [List.set_cons_zero, cels, hc, Nat.zero_mul, Nat.zero_add]
      rw [List.set_append_left _ _ (by rw [K.len]; exact hj)]
    | succ i =>
      simp only [List.set_cons_succ, cels]
      rw [ih i (by simpa using hm), List.set_append_right _ _ (by rw [K.len, Nat.succ_mul]; omega), K.len, show (i + 1) * K.s + j - K.s = i * K.s + j by rw [Nat.succ_mul]; omega]
theorem cels_erase (L : List α) (i : Nat) : (cels K.c L).take (i * K.s) ++ (cels K.c L).drop ((i + 1) * K.s) = cels K.c (L.eraseIdx i) := by
  rw [List.eraseIdx_eq_take_drop_succ, cels_append, Rw.cels_take K.len, Rw.cels_drop K.len]
end plain

/-- nothing but the block Q and the row v has turned; the new row v' is the old one or new -/
structure Turn (Q : Nat) (v v' : Value) (w w' : World) : Prop where
  os : w'.os = w.os
  tape : w'.tape = w.tape
  output : w'.output = w.output
  size : w.heap.size ≤ w'.heap.size
  block : ∀ k, k < w.heap.size → k ≠ Q → some k ≠ v.ownBlock → w'.heap[k]? = w.heap[k]?
  loc : ∀ g, v'.ownBlock = some g → v.ownBlock = some g ∨ w.heap.size ≤ g

section
variable {w w' w'' : World} {B Q : Nat} {v v' v'' : Value}
theorem Turn.refl (Q : Nat) (v : Value) (w : World) : Turn Q v v w w := ⟨rfl, rfl, rfl, Nat.le_refl _, fun _ _ _ _ => rfl, fun _ h => Or.inl h⟩
theorem Turn.trans (h : Turn Q v v' w w') (g : Turn Q v' v'' w' w'') : Turn Q v v'' w w'' := by
  refine ⟨g.os.trans h.os, g.tape.trans h.tape, g.output.trans h.output, Nat.le_trans h.size g.size, fun k hk hQ hv => ?_, fun x hx => ?_⟩
  · refine (g.block k (Nat.lt_of_lt_of_le hk h.size) hQ (fun e => ?_)).trans (h.block k hk hQ hv)
    rcases h.loc k e.symm with a | a
    · exact hv a.symm
    · omega
  · rcases g.loc x hx with a | a
    · exact h.loc x a
    · exact Or.inr (Nat.le_trans h.size a)
theorem Turn.below (h : Turn Q v v' w w') (hQ : B ≤ Q) (hv : ∀ g, v.ownBlock = some g → B ≤ g) (hB : B ≤ w.heap.size) : Below B w w' :=
  ⟨h.os, h.tape, h.output, h.size, fun k hk => h.block k (by omega) (by omega) (fun e => by have := hv k e.symm; omega)⟩
theorem Turn.drew (h : Turn Q v v' w w') : Turn Q v v' w w'.drew := ⟨h.os, h.tape, h.output, h.size, h.block, h.loc⟩
theorem Turn.drewN (h : Turn Q v v' w w') (q : Nat) : Turn Q v v' w (w'.drewN q) := ⟨h.os, h.tape, h.output, h.size, h.block, h.loc⟩
theorem Turn.alloc (h : Turn Q v v' w w') (o : Obj) : Turn Q v v' w (w'.alloc o) :=
  ⟨h.os, h.tape, h.output, Nat.le_trans h.size (by simp), fun k hk hQ hv => (Below.heap_alloc w' o k (Nat.lt_of_lt_of_le hk h.size)).trans (h.block k hk hQ hv), h.loc⟩
/-- what was there has not been touched -/
theorem Turn.of_below (g : Below w.heap.size w w') : Turn Q v v w w' := ⟨g.os, g.tape, g.output, g.size, fun k hk _ _ => g.block k hk, fun _ h => Or.inl h⟩
theorem Turn.of_grown (hg : w.grownBy w' v.ownBlock) (hl : v'.ownBlock = v.ownBlock ∨ ∃ g, v'.ownBlock = some g ∧ w.heap.size ≤ g) : Turn Q v v' w w' := by
  refine ⟨hg.os, hg.tape, hg.output, hg.size, fun k hk _ hv => hg.block k hk hv, fun g h => ?_⟩
  rcases hl with e | ⟨x, hx, hl⟩
  · exact Or.inl (e ▸ h)
  · rw [hx] at h; cases h; exact Or.inr hl
theorem Turn.setQ (j : Nat) (u : Value) : Turn Q v v w (w.setCell ⟨Q, j, none⟩ u) :=
  ⟨rfl, rfl, rfl, by simp, fun k _ hQ _ => Below.heap_setCell w ⟨Q, j, none⟩ u k hQ, fun _ h => Or.inl h⟩
/-- the field has a new row -/
theorem Turn.setRow (j : Nat) (u : Value) (h : Turn Q v v' w w') : Turn Q v v' w (w'.setCell ⟨Q, j, none⟩ u) := h.trans (Turn.setQ j u)
theorem Turn.setG {g n cap : Nat} (j : Nat) (u : Value) : Turn Q (.slice (some ⟨g, 0, none⟩) n cap) (.slice (some ⟨g, 0, none⟩) n cap) w (w.setCell ⟨g, j, none⟩ u) :=
  ⟨rfl, rfl, rfl, by simp, fun k _ _ hv => Below.heap_setCell w ⟨g, j, none⟩ u k (fun e => hv (by rw [e]; rfl)), fun _ h => Or.inl h⟩
theorem Turn.appended {o : Obj} (hg : (w.drew.alloc o).grownBy w' v.ownBlock) (hl : v'.ownBlock = v.ownBlock ∨ v'.ownBlock = some (w.drew.alloc o).heap.size) : Turn Q v v' w w' :=
  (((Turn.refl Q v w).drew).alloc o).trans (Turn.of_grown hg (hl.imp id fun e => ⟨_, e, Nat.le_refl _⟩))
/-- a cell of another block -/
theorem Turn.cell {c j : Nat} {x : Value} (t : Turn Q v v' w w') (h : w.cell? ⟨c, j, none⟩ = some x) (h1 : c ≠ Q) (h2 : v.ownBlock ≠ some c) : w'.cell? ⟨c, j, none⟩ = some x :=
  (World.cell?_of_block (w := w) (a := ⟨c, j, none⟩) (t.block c (World.block_lt_of_cell? w _ h) h1 (fun e => h2 e.symm))).trans h
theorem Turn.off {c : Nat} (t : Turn Q v v' w w') (h : c < w.heap.size) (hv : v.ownBlock ≠ some c) : v'.ownBlock ≠ some c := fun e => by
  rcases t.loc c e with a | a
  · exact hv a
  · omega
theorem owns_block {e : TypeId} {s n : Nat} {xs : List Value} (h : w.ownsRow B e s v n xs) (hb : ∀ g, v.ownBlock = some g → w'.heap[g]? = w.heap[g]?) : w'.ownsRow B e s v n xs := by
  refine ⟨h.1, ?_⟩
  rcases h.2 with a | ⟨g, cap, cur, rfl, h1, h2, h3⟩
  · exact Or.inl a
  · exact Or.inr ⟨g, cap, cur, rfl, h1, (hb g rfl).trans h2, h3⟩
theorem own_succ {e : TypeId} {s n : Nat} {xs : List Value} (h : w.ownsRow B e s v (n + 1) xs) : ∃ g cap, v = .slice (some ⟨g, 0, none⟩) (n + 1) cap := by
  rcases h.2 with ⟨_, h⟩ | ⟨g3, cap3, _, h, _⟩
  · omega
  · exact ⟨g3, cap3, h⟩
theorem own_block {g n cap s : Nat} {e : TypeId} {xs : List Value} (h : w.ownsRow B e s (.slice (some ⟨g, 0, none⟩) n cap) n xs) : ∃ cur, w.heap[g]? = some (.cells cur e (0, 0)) ∧ cur.size = cap * s := by
  rcases h.2 with ⟨h0, _⟩ | ⟨g', cap', cur, h0, _, h1, _, _, h2, _⟩
  · cases h0
  · cases h0; exact ⟨cur, h1, h2⟩
end

/-- the block Q holds hd; its cell oS is the row v, which holds L -/
structure RAt {α : Type} (K : Kd α) (w : World) (e : TypeId) (B Q oS : Nat) (hd : List Value) (v : Value) (L : List α) : Prop where
  lt : Q < w.heap.size
  bQ : B ≤ Q
  cQ : ∀ j u, hd[j]? = some u → w.cell? ⟨Q, j, none⟩ = some u
  cS : hd[oS]? = some v
  fz : ∀ j, w.frozen? ⟨Q, j, none⟩ = false
  own : w.ownsRow B e K.s v L.length (cels K.c L)
  ne : v.ownBlock ≠ some Q

section
variable {α : Type} {K : Kd α} {w w' : World} {e : TypeId} {B Q oS : Nat} {hd hd' : List Value} {v v' : Value} {L L' : List α}
theorem RAt.rowB (h : RAt K w e B Q oS hd v L) : ∀ g, v.ownBlock = some g → B ≤ g := fun g hg => (h.own.lt g hg).1
theorem RAt.rowLt (h : RAt K w e B Q oS hd v L) : ∀ g, v.ownBlock = some g → g < w.heap.size := fun g hg => (h.own.lt g hg).2
theorem lt_of_block {k : Nat} (h : k < w.heap.size) (hQ : w'.heap[k]? = w.heap[k]?) : k < w'.heap.size := by
  rw [Array.getElem?_eq_getElem h] at hQ
  exact (Array.getElem?_eq_some_iff.1 hQ).1
theorem RAt.kept (h : RAt K w e B Q oS hd v L) (hQ : w'.heap[Q]? = w.heap[Q]?) (hb : ∀ g, v.ownBlock = some g → w'.heap[g]? = w.heap[g]?) : RAt K w' e B Q oS hd v L :=
  ⟨lt_of_block h.lt hQ, h.bQ, fun j u hu => (World.cell?_of_block (w := w) (a := ⟨Q, j, none⟩) hQ).trans (h.cQ j u hu), h.cS, fun j => (World.frozen?_of_block (w := w) (a := ⟨Q, j, none⟩) hQ).trans (h.fz j), owns_block h.own hb, h.ne⟩
theorem RAt.drew (h : RAt K w e B Q oS hd v L) : RAt K w.drew e B Q oS hd v L := h.kept rfl (fun _ _ => rfl)
theorem RAt.drewN (h : RAt K w e B Q oS hd v L) (q : Nat) : RAt K (w.drewN q) e B Q oS hd v L := h.kept rfl (fun _ _ => rfl)
theorem RAt.alloc (h : RAt K w e B Q oS hd v L) (o : Obj) : RAt K (w.alloc o) e B Q oS hd v L := h.kept (Below.heap_alloc w o Q h.lt) (fun g hg => Below.heap_alloc w o g (h.rowLt g hg))
theorem RAt.below (h : RAt K w e B Q oS hd v L) (hb : Below w.heap.size w w') : RAt K w' e B Q oS hd v L := h.kept (hb.block Q h.lt) (fun g hg => hb.block g (h.rowLt g hg))
/-- what is turned elsewhere leaves it as it was -/
theorem RAt.other {P : Nat} {u u' : Value} (h : RAt K w e B Q oS hd v L) (t : Turn P u u' w w') (h1 : Q ≠ P) (h2 : u.ownBlock ≠ some Q) (h3 : v.ownBlock ≠ some P) (h4 : ∀ g, v.ownBlock = some g → u.ownBlock ≠ some g) : RAt K w' e B Q oS hd v L :=
  h.kept (t.block Q h.lt h1 (fun e => h2 e.symm)) (fun g hg => t.block g (h.rowLt g hg) (fun e => h3 (e ▸ hg)) (fun e => h4 g hg e.symm))
/-- a cell of the block is told anew, not the row -/
theorem RAt.setN (h : RAt K w e B Q oS hd v L) (j : Nat) (u : Value) (hne : j ≠ oS) : RAt K (w.setCell ⟨Q, j, none⟩ u) e B Q oS (hd.set j u) v L := by
  refine ⟨by simpa using h.lt, h.bQ, fun i x hx => ?_, by rw [List.getElem?_set_ne hne]; exact h.cS, fun i => by rw [World.frozen?_setCell]; exact h.fz i, owns_block h.own (fun g hg => Below.heap_setCell w _ _ g (fun e => h.ne (by rw [hg]; exact congrArg some e))), h.ne⟩
  by_cases hi : i = j
  · subst hi
    have hl : i < hd.length := by have := (List.getElem?_eq_some_iff.1 hx).1; simpa using this
    rw [List.getElem?_set_self hl] at hx
    cases hx
    exact World.cell?_setCell_same _ _ _ (h.cQ i hd[i] (by simp [hl]))
  · rw [List.getElem?_set_ne (fun e => hi e.symm)] at hx
    rw [World.cell?_setCell_other (h := fun e => hi (congrArg Addr.off e).symm)]
    exact h.cQ i x hx
/-- the row is another one now, and the field has it -/
theorem RAt.regrown (h : RAt K w e B Q oS hd v L) (hQ : w'.heap[Q]? = w.heap[Q]?) (hown : w'.ownsRow B e K.s v' L'.length (cels K.c L')) (hv : v'.ownBlock ≠ some Q) : RAt K (w'.setCell ⟨Q, oS, none⟩ v') e B Q oS (hd.set oS v') v' L' := by
  have hl : oS < hd.length := (List.getElem?_eq_some_iff.1 h.cS).1
  refine ⟨by simpa using lt_of_block h.lt hQ, h.bQ, fun i x hx => ?_, List.getElem?_set_self hl, fun i => by rw [World.frozen?_setCell]; exact (World.frozen?_of_block (w := w) (a := ⟨Q, i, none⟩) hQ).trans (h.fz i), owns_block hown (fun g hg => Below.heap_setCell w' _ _ g (fun e => hv (by rw [hg]; exact congrArg some e))), hv⟩
  by_cases hi : i = oS
  · subst hi
    rw [List.getElem?_set_self hl] at hx
    cases hx
    exact World.cell?_setCell_same _ _ _ ((World.cell?_of_block (w := w) (a := ⟨Q, i, none⟩) hQ).trans (h.cQ i v h.cS))
  · rw [List.getElem?_set_ne (fun e => hi e.symm)] at hx
    rw [World.cell?_setCell_other (h := fun e => hi (congrArg Addr.off e).symm)]
    exact (World.cell?_of_block (w := w) (a := ⟨Q, i, none⟩) hQ).trans (h.cQ i x hx)
/-- behind an append onto its row -/
theorem RAt.appended {o : Obj} (h : RAt K w e B Q oS hd v L) (hg : (w.drew.alloc o).grownBy w' v.ownBlock) : w'.heap[Q]? = w.heap[Q]? := by
  have hl := h.lt
  refine (hg.block Q (by simp; omega) (fun e => h.ne e.symm)).trans ?_
  exact Below.heap_alloc w.drew o Q hl
theorem own_off {o : Obj} (h : RAt K w e B Q oS hd v L) (hl : v'.ownBlock = v.ownBlock ∨ v'.ownBlock = some (w.drew.alloc o).heap.size) : v'.ownBlock ≠ some Q := by
  rcases hl with e | e
  · rw [e]; exact h.ne
  · rw [e]; have := h.lt; intro h'; simp at h'; omega
/-- a cell of a record is told anew -/
theorem RAt.put {g n cap i j : Nat} {m m' : α} {u : Value} (h : RAt K w e B Q oS hd (.slice (some ⟨g, 0, none⟩) n cap) L) (hn : n = L.length) (hm : L[i]? = some m) (hj : j < K.s) (hc : K.c m' = (K.c m).set j u) :
    RAt K (w.setCell ⟨g, i * K.s + j, none⟩ u) e B Q oS hd (.slice (some ⟨g, 0, none⟩) n cap) (L.set i m') := by
  subst hn
  have hgQ : g ≠ Q := fun e => h.ne (by rw [e]; rfl)
  have hs := (h.own.stored (i * K.s + j) u).1
  rw [← cels_set K L i j m m' u hm hj hc] at hs
  refine ⟨by simpa using h.lt, h.bQ, fun o x hx => ?_, h.cS, fun i => by rw [World.frozen?_setCell]; exact h.fz i, by rw [List.length_set]; exact hs, h.ne⟩
  rw [World.cell?_setCell_other (h := fun e => hgQ (congrArg Addr.block e))]; exact h.cQ o x hx
/-- the row's shape -/
theorem RAt.form (h : RAt K w e B Q oS hd v L) : ∃ ao cap, v = .slice ao L.length cap ∧ L.length ≤ cap ∧ cap ≤ maxLen ∧ (0 < L.length → ∃ g, ao = some ⟨g, 0, none⟩) := by
  rcases h.own.2 with ⟨a, b⟩ | ⟨g, cap, cur, a, _, _, b, c, _⟩
  · exact ⟨none, 0, by rw [a, b], by omega, by unfold maxLen; omega, fun h => absurd h (by omega)⟩
  · exact ⟨some ⟨g, 0, none⟩, cap, a, b, c, fun _ => ⟨g, rfl⟩⟩
theorem RAt.cells {g n cap i : Nat} {m : α} (h : RAt K w e B Q oS hd (.slice (some ⟨g, 0, none⟩) n cap) L) (hn : n = L.length) (hm : L[i]? = some m) : ∀ j u, (K.c m)[j]? = some u → w.cell? ⟨g, i * K.s + j, none⟩ = some u := by
  subst hn
  intro j u hu
  have hi : i < L.length := (List.getElem?_eq_some_iff.1 hm).1
  have hj : j < K.s := by have := (List.getElem?_eq_some_iff.1 hu).1; rwa [K.len] at this
  have hlt : i * K.s + j < L.length * K.s := by
    have := Nat.mul_le_mul_right K.s (show i + 1 ≤ L.length from hi)
    rw [Nat.succ_mul] at this; omega
  rw [h.own.cellAt _ hlt, Rw.cels_get K.len L i j m hm hj]
  exact hu
theorem RAt.fzG {g n cap : Nat} (h : RAt K w e B Q oS hd (.slice (some ⟨g, 0, none⟩) n cap) L) (hn : n = L.length) : ∀ j, w.frozen? ⟨g, j, none⟩ = false := by
  subst hn
  exact fun j => h.own.frozenAt j

/-- a slice of records as it lies -/
def RowAt (K : Kd α) (w : World) (ao : Option Addr) (L : List α) : Prop :=
  0 < L.length → ∃ g, ao = some ⟨g, 0, none⟩ ∧ g < w.heap.size ∧ ∀ i m, L[i]? = some m → ∀ j u, (K.c m)[j]? = some u → w.cell? ⟨g, i * K.s + j, none⟩ = some u
theorem RowAt.below {ao : Option Addr} (h : RowAt K w ao L) (hb : Below w.heap.size w w') : RowAt K w' ao L := by
  intro hl
  obtain ⟨g, rfl, hg, hc⟩ := h hl
  exact ⟨g, rfl, Nat.lt_of_lt_of_le hg hb.size, fun i m hm j u hu => (hb.cell (p := ⟨g, i * K.s + j, none⟩) hg).trans (hc i m hm j u hu)⟩
theorem RowAt.drewN {ao : Option Addr} (h : RowAt K w ao L) (q : Nat) : RowAt K (w.drewN q) ao L := h
theorem RowAt.turn {ao : Option Addr} (h : RowAt K w ao L) (hO : ∀ g, ao = some ⟨g, 0, none⟩ → g ≠ Q ∧ v.ownBlock ≠ some g) (t : Turn Q v v' w w') : RowAt K w' ao L := by
  intro hl
  obtain ⟨g, rfl, hg, hc⟩ := h hl
  obtain ⟨h1, h2⟩ := hO g rfl
  exact ⟨g, rfl, Nat.lt_of_lt_of_le hg t.size, fun i m hm j u hu => t.cell (hc i m hm j u hu) h1 h2⟩
theorem RAt.row {ao : Option Addr} {cap : Nat} (h : RAt K w e B Q oS hd (.slice ao L.length cap) L) : RowAt K w ao L := by
  intro hl
  obtain ⟨ao', cap', he, _, _, hg⟩ := h.form
  cases he
  obtain ⟨g, rfl⟩ := hg hl
  exact ⟨g, rfl, h.rowLt g rfl, fun i m hm => h.cells rfl hm⟩
/-- a row that is known whole -/
theorem row_of_block {g : Nat} (h : w.heap[g]? = some (.cells (cels K.c L).toArray e (0, 0))) : RowAt K w (some ⟨g, 0, none⟩) L := by
  intro _
  refine ⟨g, rfl, (Array.getElem?_eq_some_iff.1 h).1, fun i m hm j u hu => ?_⟩
  have hj : j < K.s := by have := (List.getElem?_eq_some_iff.1 hu).1; rwa [K.len] at this
  rw [cell_of_row w g _ _ _ _ h, List.getElem?_toArray, Rw.cels_get K.len L i j m hm hj]
  exact hu
theorem RAt.src {ao : Option Addr} {cap : Nat} (h : RAt K w e B Q oS hd (.slice ao L.length cap) L) : 0 < L.length → ∃ ad, ao = some ad ∧ ∀ j u, (cels K.c L)[j]? = some u → w.cell? (ad.add j) = some u := by
  intro hl
  obtain ⟨ao', cap', he, _, _, hg⟩ := h.form
  cases he
  obtain ⟨g, rfl⟩ := hg hl
  exact ⟨_, rfl, h.own.cells rfl⟩
end

/-- two of them side by side -/
structure Apart (Q D : Nat) (v u : Value) : Prop where
  qd : Q ≠ D
  vD : v.ownBlock ≠ some D
  uQ : u.ownBlock ≠ some Q
  vu : ∀ g, v.ownBlock = some g → u.ownBlock ≠ some g
theorem Apart.symm {Q D : Nat} {v u : Value} (h : Apart Q D v u) : Apart D Q u v := ⟨h.qd.symm, h.uQ, h.vD, fun g a b => h.vu g b a⟩
section
variable {α β : Type} {K : Kd α} {J : Kd β} {w w' : World} {e f : TypeId} {B Q D oS oR : Nat} {hd hr : List Value} {v u v' : Value} {L : List α} {M : List β}
/-- one turns, the other is as it was, and they lie apart -/
theorem Apart.step (h : Apart Q D v u) (hu : RAt J w f B D oR hr u M) (t : Turn Q v v' w w') : RAt J w' f B D oR hr u M ∧ Apart Q D v' u := by
  refine ⟨hu.other t h.qd.symm h.vD h.uQ (fun g a b => h.vu g b a), h.qd, fun x => ?_, h.uQ, fun g hv hg => ?_⟩
  · rcases t.loc D x with a | a
    · exact h.vD a
    · have := hu.lt; omega
  · rcases t.loc g hv with a | a
    · exact h.vu g a hg
    · have := hu.rowLt g hg; omega
theorem RAt.turned (h : RAt K w e B Q oS hd v L) (t : Turn Q v v' w w') : Below B w w' := t.below h.bQ h.rowB (by have := h.bQ; have := h.lt; omega)
end
end Rec
end Go.Proofs.YtbnnplfmhmmbnacGreatDoor
namespace Go.Proofs.YtbnnplfmhmmbnacGreatDoor
namespace Rec
open Go.RowKit Rw

/-- append onto a row of the call's own, as a step of a region; and where the new row lies -/
theorem step_own_at {P : Program} {ops : Array Oper} {o : Oper} {a : Act} {w : World} {K : Act → World → Prop} {Q : Exit → Act → World → Prop} {E : Prop}
    (hg : o.guard = none) (s x : Operand) (t : TypeId) (hop : o.op = Op.call { callee := Callee.builtin Builtin.append, args := #[s, x], argTypes := #[t, t] })
    (base : Nat) (e : TypeId) (i : TypeInfo) (z : Value) (size bytes : Nat) (h1 : P.underlying t = some (.slice e)) (h2 : P.info? e = some i) (h3 : i.zero = some z) (h4 : i.size = size) (h5 : i.bytes = bytes) (h6 : z.cells.size = size) (h7 : 0 < size)
    (v : Value) (n : Nat) (xs : List Value) (hs : a.eval s = v) (hown : w.ownsRow base e size v n xs)
    (ad : Addr) (m c : Nat) (news : List Value) (hx : a.eval x = .slice (some ad) m c) (hn : news.length = m * size) (hc : ∀ j u, news[j]? = some u → w.cell? (ad.add j) = some u) (h1c : ∀ u ∈ news, u.oneCell' = true)
    (b1 : n + m ≤ maxLen) (b2 : (n + m) * bytes ≤ 140737488355328) (hb : base ≤ w.heap.size)
    (hK : ∀ v' w', w'.ownsRow base e size v' (n + m) (xs ++ news) → w.grownBy w' v.ownBlock → (v'.ownBlock = v.ownBlock ∨ v'.ownBlock = some w.heap.size) → K (a.put o.dst v') w') :
    if Region.wanted o (yielded ops a.tmps) = true then Oper.wp P o a w K Q else E := by
  have hw : Region.wanted o (yielded ops a.tmps) = true := by simp [Region.wanted, hg]
  rw [if_pos hw]
  obtain ⟨v', w', hr, g2, g3, _, g5⟩ := run_append_own_at (P := P) w base t o.type e i z size bytes h1 h2 h3 h4 h5 h6 h7 v n xs hown ad m c news hn hc h1c b1 b2 hb
  unfold Oper.wp execOp
  simp only [hop, resolve, invoke, builtin, Sem.run_bind, Sem.run_pure, Result.andThen_ok, List.map_toArray, List.map_cons, List.map_nil, hs, hx, hr]
  exact hK v' w' g2 g3 g5
theorem cell_three (w : World) (e : TypeId) (a b c : Value) : ∀ (j : Nat) (u : Value), [a, b, c][j]? = some u → (w.alloc (.cells #[a, b, c] e)).cell? ((⟨w.heap.size, 0, none⟩ : Addr).add j) = some u := by
  intro j u h
  match j, h with
  | 0, h => simp at h; subst h; simp [Addr.add]
  | 1, h => simp at h; subst h; simp [Addr.add]
  | 2, h => simp at h; subst h; simp [Addr.add]
  | j + 3, h => simp at h

/-- append where there is room, as a step of a region: the row as it is told behind it -/
theorem step_room {P : Program} {ops : Array Oper} {o : Oper} {a : Act} {w W1 : World} {K : Act → World → Prop} {Q : Exit → Act → World → Prop} {E : Prop}
    (hg : o.guard = none) (s x : Operand) (t : TypeId) (hop : o.op = Op.call { callee := Callee.builtin Builtin.append, args := #[s, x], argTypes := #[t, t] })
    (e : TypeId) (i : TypeInfo) (h1 : P.underlying t = some (.slice e)) (h2 : P.info? e = some i)
    (g n cap : Nat) (cur : Array Value) (hgr : w.heap[g]? = some (.cells cur e (0, 0))) (hs : a.eval s = .slice (some ⟨g, 0, none⟩) n cap)
    (ad : Addr) (m c : Nat) (news : List Value) (hx : a.eval x = .slice (some ad) m c) (hn : news.length = m * i.size) (hc : ∀ j u, news[j]? = some u → w.cell? (ad.add j) = some u) (h1c : ∀ u ∈ news, u.oneCell' = true)
    (hroom : n + m ≤ cap) (hfit : n * i.size + news.length ≤ cur.size)
    (hW : W1 = w.setRow g (cur.toList.take (n * i.size) ++ news ++ cur.toList.drop (n * i.size + news.length)).toArray)
    (hK : K (a.put o.dst (.slice (some ⟨g, 0, none⟩) (n + m) cap)) W1) :
    if Region.wanted o (yielded ops a.tmps) = true then Oper.wp P o a w K Q else E := by
  have hw : Region.wanted o (yielded ops a.tmps) = true := by simp [Region.wanted, hg]
  rw [if_pos hw]
  have hr := run_append_room (P := P) w t o.type e i h1 h2 g n cap cur hgr ad m c news hn hc h1c hroom hfit
  rw [← hW] at hr
  unfold Oper.wp execOp
  simp only [hop, resolve, invoke, builtin, Sem.run_bind, Sem.run_pure, Result.andThen_ok, List.map_toArray, List.map_cons, List.map_nil, hs, hx, hr]
  exact hK

/-- clear of one message -/
theorem run_clear_row {P : Program} (w : World) (t e ty : TypeId) (z : Value) (ht : P.underlying t = some (.slice e)) (hv : (zeroValue e).run P w = .ok z w) (h1 : ∀ u ∈ z.cells.toList, u.oneCell' = true) (g o c : Nat) (cur : Array Value)
    (hg : w.heap[g]? = some (.cells cur e (0, 0))) (hfit : o + z.cells.size ≤ cur.size) :
    (Builtin.clear_ #[t] ty #[.slice (some ⟨g, o, none⟩) 1 c]).run P w = .ok (.tuple #[]) (w.setRow g (cur.toList.take o ++ z.cells.toList ++ cur.toList.drop (o + z.cells.toList.length)).toArray) := by
  have hzc : (Builtin.zeroCells z.cells 1).toList = z.cells.toList := by
    apply List.ext_getElem?
    intro j
    simp [Builtin.zeroCells]
    by_cases hj : j < z.cells.size
    · simp [hj, Nat.mod_eq_of_lt hj]
    · simp [hj]
  have hst := run_storeCells_at P g o e z.cells.toList 0 cur w hg (by simpa using hfit) h1
  simp only [Nat.add_zero] at hst
  simp [Builtin.clear_, run_underlying ht, hv, hzc, hst]
/-- copy of a whole row into one that was made for it -/
theorem run_copy_all {P : Program} (w : World) (dT sT ty e : TypeId) (i : TypeInfo) (hu : P.underlying dT = some (.slice e)) (hi : P.info? e = some i) (g n dc sc : Nat) (sp : Option Addr) (cur : Array Value) (cs : List Value)
    (hg : w.heap[g]? = some (.cells cur e (0, 0))) (hcur : cur.size = n * i.size) (hl : cs.length = n * i.size) (hsrc : 0 < n → ∃ ad, sp = some ad ∧ ∀ j u, cs[j]? = some u → w.cell? (ad.add j) = some u) (h1 : ∀ u ∈ cs, u.oneCell' = true) :
    ∃ w', (Builtin.copy_ #[dT, sT] ty #[.slice (some ⟨g, 0, none⟩) n dc, .slice sp n sc]).run P w = .ok (goInt n) w' ∧ w'.heap[g]? = some (.cells cs.toArray e (0, 0)) ∧ w.grownBy w' (some g) := by
  by_cases h0 : n = 0
  · subst h0
    have hcs : cs = [] := List.eq_nil_of_length_eq_zero (by simpa using hl)
    have hce : cur = #[] := Array.eq_empty_of_size_eq_zero (by simpa using hcur)
    refine ⟨w, ?_, by rw [hcs, hg, hce], ⟨rfl, rfl, rfl, Nat.le_refl _, fun _ _ _ => rfl⟩⟩
    have hl0 : ∀ (x : Addr), (loadCells x 0).run P w = .ok #[] w := fun x => by simpa using run_loadCells_list (P := P) w x [] (by simp)
    cases sp <;> simp [Builtin.copy_, run_underlying hu, Builtin.lenOf, Builtin.firstCells, sizeOf, typeInfo, hi, storeCells, hl0]
  · obtain ⟨ad, rfl, hs⟩ := hsrc (by omega)
    have hf := run_firstCells_some (P := P) w i.size n ad n sc cs hl hs
    have hst := run_storeCells_at P g 0 e cs 0 cur w hg (by omega) h1
    simp only [Nat.add_zero, Nat.zero_add, List.take_zero, List.nil_append] at hst
    rw [List.drop_of_length_le (by rw [Array.length_toList, hcur, hl]; exact Nat.le_refl _), List.append_nil] at hst
    refine ⟨w.setRow g cs.toArray, ?_, setRow_heap w g cur _ e _ hg, ⟨rfl, rfl, rfl, by simp, fun k _ hk => setRow_other w g k _ (fun e => hk (by rw [e]))⟩⟩
    simp [Builtin.copy_, run_underlying hu, Builtin.lenOf, sizeOf, typeInfo, hi, hf, hst]
theorem wpList_copy_all {P : Program} {w : World} {ops : Array Oper} {rest : List Oper} {o : Oper} {a : Act} {Q : Exit → Act → World → Prop} (hgd : o.guard = none) (d s : Operand) (dT sT : TypeId)
    (ho : o.op = .call { callee := .builtin .copy, args := #[d, s], argTypes := #[dT, sT] }) (e : TypeId) (i : TypeInfo) (hu : P.underlying dT = some (.slice e)) (hi : P.info? e = some i) (g n dc sc : Nat) (sp : Option Addr) (cur : Array Value) (cs : List Value)
    (hd : a.eval d = .slice (some ⟨g, 0, none⟩) n dc) (hs : a.eval s = .slice sp n sc)
    (hg : w.heap[g]? = some (.cells cur e (0, 0))) (hcur : cur.size = n * i.size) (hl : cs.length = n * i.size) (hsrc : 0 < n → ∃ ad, sp = some ad ∧ ∀ j u, cs[j]? = some u → w.cell? (ad.add j) = some u) (h1 : ∀ u ∈ cs, u.oneCell' = true)
    (h : ∀ w', w'.heap[g]? = some (.cells cs.toArray e (0, 0)) → w.grownBy w' (some g) → wpList P ops Q rest (a.put o.dst (goInt n)) w') : wpList P ops Q (o :: rest) a w := by
  refine wpList_plain hgd fun K hK => ?_
  obtain ⟨w', hr, h2, h3⟩ := run_copy_all (P := P) w dT sT o.type e i hu hi g n dc sc sp cur cs hg hcur hl hsrc h1
  unfold Oper.wp
  simp [execOp, ho, resolve, invoke, builtin, hd, hs, hr, Result.andThen]
  exact hK _ _ (h w' h2 h3)
end Rec
end Go.Proofs.YtbnnplfmhmmbnacGreatDoor
