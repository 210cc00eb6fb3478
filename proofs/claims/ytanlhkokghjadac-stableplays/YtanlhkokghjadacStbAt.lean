
/- A Stable as it lies in memory: its numbers, its four rows. -/
import Derived.Test.YtanlhkokghjadacStbAdd
namespace Go.Proofs.Ytanlhkokghjadac
namespace Stb
open Rw Go.RowKit
set_option maxRecDepth 8000

def rws (s : St) : Nat → List Mo
  | 0 => s.lo
  | 1 => s.hi
  | 2 => s.gr.l
  | _ => s.sh.l
def pos : Nat → Nat
  | 0 => 9
  | 1 => 10
  | 2 => 11
  | _ => 13
def num (s : St) : Nat → Int
  | 0 => s.u.w
  | 1 => s.u.n
  | 2 => s.u.c
  | 3 => s.u.p
  | 4 => s.d.w
  | 5 => s.d.n
  | 6 => s.d.c
  | 7 => s.d.p
  | 8 => s.last
  | 12 => s.gr.s
  | _ => s.sh.s
def isNum (j : Nat) : Prop := j < 9 ∨ j = 12 ∨ j = 14
def updV (V : Nat → Value) (i : Nat) (v : Value) : Nat → Value := fun j => if j = i then v else V j
/-- the blocks of a Stable -/
def blk (Q : Nat) (V : Nat → Value) (k : Nat) : Prop := k = Q ∨ ∃ i, i < 4 ∧ (V i).ownBlock = some k

structure SAt (w : World) (B Q : Nat) (V : Nat → Value) (s : St) : Prop where
  lt : Q < w.heap.size
  bQ : B ≤ Q
  fz : ∀ j, w.frozen? ⟨Q, j, none⟩ = false
  num : ∀ j, isNum j → w.cell? ⟨Q, j, none⟩ = some (.int .i64 (num s j))
  row : ∀ i, i < 4 → w.cell? ⟨Q, pos i, none⟩ = some (V i)
  own : ∀ i, i < 4 → MOwn w B (V i) (rws s i)
  ne : ∀ i, i < 4 → (V i).ownBlock ≠ some Q
  ap : ∀ i j, i < 4 → j < 4 → i ≠ j → ∀ g, (V i).ownBlock = some g → (V j).ownBlock ≠ some g
/-- what a call of it may have turned -/
structure Step (Q : Nat) (V V' : Nat → Value) (w w' : World) : Prop where
  os : w'.os = w.os
  tape : w'.tape = w.tape
  output : w'.output = w.output
  size : w.heap.size ≤ w'.heap.size
  block : ∀ k, k < w.heap.size → ¬ blk Q V k → w'.heap[k]? = w.heap[k]?
  loc : ∀ k, blk Q V' k → blk Q V k ∨ w.heap.size ≤ k
section
variable {w w' w'' : World} {B Q : Nat} {V V' V'' : Nat → Value} {s s' : St}
theorem Step.refl (Q : Nat) (V : Nat → Value) (w : World) : Step Q V V w w := ⟨rfl, rfl, rfl, Nat.le_refl _, fun _ _ _ => rfl, fun _ h => Or.inl h⟩
theorem Step.trans (h : Step Q V V' w w') (g : Step Q V' V'' w' w'') : Step Q V V'' w w'' := by
  refine ⟨g.os.trans h.os, g.tape.trans h.tape, g.output.trans h.output, Nat.le_trans h.size g.size, fun k hk hb => ?_, fun k hk => ?_⟩
  · refine (g.block k (Nat.lt_of_lt_of_le hk h.size) (fun e => ?_)).trans (h.block k hk hb)
    rcases h.loc k e with a | a
    · exact hb a
    · omega
  · rcases g.loc k hk with a | a
    · exact h.loc k a
    · exact Or.inr (Nat.le_trans h.size a)
theorem Step.of_below (hb : Below w.heap.size w w') : Step Q V V w w' := ⟨hb.os, hb.tape, hb.output, hb.size, fun k hk _ => hb.block k hk, fun _ h => Or.inl h⟩
theorem Step.drew (h : Step Q V V' w w') : Step Q V V' w w'.drew := ⟨h.os, h.tape, h.output, h.size, h.block, h.loc⟩
theorem Step.alloc (h : Step Q V V' w w') (o : Obj) : Step Q V V' w (w'.alloc o) := h.trans (Step.of_below ((Below.refl _ _).alloc (Nat.le_refl _) _))
theorem SAt.blt (h : SAt w B Q V s) {k : Nat} (hk : blk Q V k) : B ≤ k ∧ k < w.heap.size := by
  rcases hk with rfl | ⟨i, hi, e⟩
  · exact ⟨h.bQ, h.lt⟩
  · exact (h.own i hi).lt k e
theorem Step.below (h : Step Q V V' w w') (hA : SAt w B Q V s) (hB : B ≤ w.heap.size) : Below B w w' :=
  ⟨h.os, h.tape, h.output, h.size, fun k hk => h.block k (by omega) (fun e => by have := (hA.blt e).1; omega)⟩
theorem SAt.kept (h : SAt w B Q V s) (hb : ∀ k, blk Q V k → w'.heap[k]? = w.heap[k]?) : SAt w' B Q V s := by
  have hQ := hb Q (Or.inl rfl)
  refine ⟨?_, h.bQ, fun j => (World.frozen?_of_block (a := ⟨Q, j, none⟩) hQ).trans (h.fz j), fun j hj => (World.cell?_of_block (a := ⟨Q, j, none⟩) hQ).trans (h.num j hj), fun i hi => (World.cell?_of_block (a := ⟨Q, pos i, none⟩) hQ).trans (h.row i hi), fun i hi => Own.kept (h.own i hi) (fun g hg => hb g (Or.inr ⟨i, hi, hg⟩)), h.ne, h.ap⟩
  have := h.lt
  rw [Array.getElem?_eq_getElem this] at hQ
  exact (Array.getElem?_eq_some_iff.1 hQ).1
theorem SAt.below (h : SAt w B Q V s) (hb : Below w.heap.size w w') : SAt w' B Q V s := h.kept (fun k hk => hb.block k (h.blt hk).2)
theorem SAt.drew (h : SAt w B Q V s) : SAt w.drew B Q V s := h.kept (fun _ _ => rfl)
theorem SAt.alloc (h : SAt w B Q V s) (o : Obj) : SAt (w.alloc o) B Q V s := h.below ((Below.refl _ _).alloc (Nat.le_refl _) _)
theorem pos_num {i : Nat} (hi : i < 4) : ¬ isNum (pos i) := by
  rcases (by omega : i = 0 ∨ i = 1 ∨ i = 2 ∨ i = 3) with rfl | rfl | rfl | rfl <;> simp [pos, isNum]
theorem pos_inj {i j : Nat} (hi : i < 4) (hj : j < 4) (h : i ≠ j) : pos i ≠ pos j := by
  rcases (by omega : i = 0 ∨ i = 1 ∨ i = 2 ∨ i = 3) with rfl | rfl | rfl | rfl <;> rcases (by omega : j = 0 ∨ j = 1 ∨ j = 2 ∨ j = 3) with rfl | rfl | rfl | rfl <;> simp [pos] at h ⊢
/-- one of its rows, and numbers, are told anew -/
theorem SAt.upd (h : SAt w B Q V s) (i : Nat) (hi : i < 4) {J : Nat → Prop} (hJ : ∀ j, J j → j = pos i ∨ isNum j) (hw : Wr Q J (V i).ownBlock w w') {v' : Value}
    (hrow : w'.cell? ⟨Q, pos i, none⟩ = some v') (hown : MOwn w' B v' (rws s' i)) (hne : v'.ownBlock ≠ some Q) (hloc : v'.ownBlock = (V i).ownBlock ∨ ∃ g, v'.ownBlock = some g ∧ w.heap.size ≤ g)
    (hrest : ∀ j, j < 4 → j ≠ i → rws s' j = rws s j) (hnum : ∀ j, isNum j → w'.cell? ⟨Q, j, none⟩ = some (.int .i64 (Stb.num s' j))) :
    SAt w' B Q (updV V i v') s' ∧ Step Q V (updV V i v') w w' := by
  have hV : ∀ j, j ≠ i → updV V i v' j = V j := fun j hj => by simp [updV, hj]
  have hVi : updV V i v' i = v' := by simp [updV]
  have hap : ∀ j, j < 4 → j ≠ i → ∀ g, v'.ownBlock = some g → (V j).ownBlock ≠ some g := by
    intro j hj hji g hg e
    rcases hloc with a | ⟨x, a, b⟩
    · rw [a] at hg; exact h.ap i j hi hj (Ne.symm hji) g hg e
    · rw [a] at hg; cases hg; have := ((h.own j hj).lt _ e).2; omega
  refine ⟨⟨Nat.lt_of_lt_of_le h.lt hw.size, h.bQ, fun j => (hw.fz j).trans (h.fz j), hnum, fun j hj => ?_, fun j hj => ?_, fun j hj => ?_, fun a b ha hb hab g hg => ?_⟩, ⟨hw.os, hw.tape, hw.output, hw.size, fun k hk hb => hw.block k hk (fun e => hb (Or.inl e)) (fun e => hb (Or.inr ⟨i, hi, e.symm⟩)), fun k hk => ?_⟩⟩
  · by_cases e : j = i
    · subst e; rw [hVi]; exact hrow
    · rw [hV j e, hw.cell (pos j) (fun hh => by
        rcases hJ _ hh with a | a
        · exact pos_inj hj hi e a
        · exact pos_num hj a)]
      exact h.row j hj
  · by_cases e : j = i
    · subst e; rw [hVi]; exact hown
    · rw [hV j e, hrest j hj e]
      refine own_wr (h.own j hj) hw (h.ne j hj) ?_
      cases hb : (V j).ownBlock with
      | none => exact Or.inl rfl
      | some g => exact Or.inr (fun e2 => h.ap j i hj hi e g hb e2.symm)
  · by_cases e : j = i
    · subst e; rw [hVi]; exact hne
    · rw [hV j e]; exact h.ne j hj
  · by_cases ea : a = i
    · subst ea
      rw [hVi] at hg
      rw [hV b (Ne.symm hab)]; exact hap b hb (Ne.symm hab) g hg
    · rw [hV a ea] at hg
      by_cases eb : b = i
      · subst eb; rw [hVi]; exact fun e => hap a ha ea g e hg
      · rw [hV b eb]; exact h.ap a b ha hb hab g hg
  · rcases hk with rfl | ⟨j, hj, e⟩
    · exact Or.inl (Or.inl rfl)
    · by_cases ej : j = i
      · subst ej
        rw [hVi] at e
        rcases hloc with a | ⟨x, a, b⟩
        · exact Or.inl (Or.inr ⟨j, hj, by rw [← a]; exact e⟩)
        · rw [a] at e; cases e; exact Or.inr b
      · rw [hV j ej] at e
        exact Or.inl (Or.inr ⟨j, hj, e⟩)
/-- its last time is told anew -/
theorem SAt.setLast (h : SAt w B Q V s) (x : Int) : SAt (w.setCell ⟨Q, 8, none⟩ (.int .i64 x)) B Q V { s with last := x } ∧ Step Q V V w (w.setCell ⟨Q, 8, none⟩ (.int .i64 x)) := by
  have hw : Wr Q (fun j => j = 8) none w (w.setCell ⟨Q, 8, none⟩ (.int .i64 x)) := (Wr.refl Q (fun j => j = 8) none w).set (j := 8) rfl _
  refine ⟨⟨Nat.lt_of_lt_of_le h.lt hw.size, h.bQ, fun j => (hw.fz j).trans (h.fz j), fun j hj => ?_, fun i hi => (hw.cell (pos i) (fun e => pos_num hi (by rw [e]; exact Or.inl (by decide)))).trans (h.row i hi), fun i hi => ?_, h.ne, h.ap⟩, ⟨hw.os, hw.tape, hw.output, hw.size, fun k hk hb => hw.block k hk (fun e => hb (Or.inl e)) (by simp), fun _ hk => Or.inl hk⟩⟩
  · by_cases e : j = 8
    · subst e; rw [World.cell?_setCell_same _ _ _ (h.num 8 (Or.inl (by decide)))]; rfl
    · rw [hw.cell j e, h.num j hj]
      have : Stb.num { s with last := x } j = Stb.num s j := by
        rcases hj with hj | rfl | rfl
        · rcases (by omega : j = 0 ∨ j = 1 ∨ j = 2 ∨ j = 3 ∨ j = 4 ∨ j = 5 ∨ j = 6 ∨ j = 7) with rfl | rfl | rfl | rfl | rfl | rfl | rfl | rfl <;> rfl
        · rfl
        · rfl
      rw [this]
  · have hr : rws { s with last := x } i = rws s i := by
      rcases (by omega : i = 0 ∨ i = 1 ∨ i = 2 ∨ i = 3) with rfl | rfl | rfl | rfl <;> rfl
    rw [hr]
    exact own_set (h.own i hi) (h.ne i hi)
/-- its tallies -/
theorem SAt.talG (h : SAt w B Q V s) : TAt w B Q 11 (V 2) s.gr := ⟨h.lt, h.row 2 (by decide), h.num 12 (Or.inr (Or.inl rfl)), h.fz _, h.fz _, h.own 2 (by decide), h.ne 2 (by decide)⟩
theorem SAt.talS (h : SAt w B Q V s) : TAt w B Q 13 (V 3) s.sh := ⟨h.lt, h.row 3 (by decide), h.num 14 (Or.inr (Or.inr rfl)), h.fz _, h.fz _, h.own 3 (by decide), h.ne 3 (by decide)⟩
theorem num_cases {P : Nat → Prop} (h9 : ∀ j, j < 9 → P j) (h12 : P 12) (h14 : P 14) : ∀ j, isNum j → P j := by
  intro j hj
  rcases hj with hj | rfl | rfl
  · exact h9 j hj
  · exact h12
  · exact h14
theorem num9 (s : St) (gr sh : Ta) (lo hi : List Mo) (j : Nat) (hj : j < 9) : Stb.num { s with lo := lo, hi := hi, gr := gr, sh := sh } j = Stb.num s j := by
  rcases (by omega : j = 0 ∨ j = 1 ∨ j = 2 ∨ j = 3 ∨ j = 4 ∨ j = 5 ∨ j = 6 ∨ j = 7 ∨ j = 8) with rfl | rfl | rfl | rfl | rfl | rfl | rfl | rfl | rfl <;> rfl
theorem SAt.newG (h : SAt w B Q V s) {v' : Value} {T : Ta} (hT : TAt w' B Q 11 v' T) (hloc : v'.ownBlock = (V 2).ownBlock ∨ ∃ g, v'.ownBlock = some g ∧ w.heap.size ≤ g) (hw : Wr Q (fun j => j = 11 ∨ j = 11 + 1) (V 2).ownBlock w w') :
    SAt w' B Q (updV V 2 v') { s with gr := T } ∧ Step Q V (updV V 2 v') w w' := by
  refine h.upd 2 (by decide) (fun j hj => hj.imp id (fun e => Or.inr (Or.inl e))) hw hT.cM hT.own hT.ne hloc (fun j hj hne => ?_) (num_cases (fun j hj => ?_) ?_ ?_)
  · rcases (by omega : j = 0 ∨ j = 1 ∨ j = 2 ∨ j = 3) with rfl | rfl | rfl | rfl
    · rfl
    · rfl
    · exact absurd rfl hne
    · rfl
  · rw [hw.cell j (by omega), h.num j (Or.inl hj)]; exact congrArg (fun x => some (Value.int .i64 x)) (num9 s T s.sh s.lo s.hi j hj).symm
  · exact hT.cS
  · rw [hw.cell 14 (by decide), h.num 14 (Or.inr (Or.inr rfl))]; rfl
theorem SAt.newS (h : SAt w B Q V s) {v' : Value} {T : Ta} (hT : TAt w' B Q 13 v' T) (hloc : v'.ownBlock = (V 3).ownBlock ∨ ∃ g, v'.ownBlock = some g ∧ w.heap.size ≤ g) (hw : Wr Q (fun j => j = 13 ∨ j = 13 + 1) (V 3).ownBlock w w') :
    SAt w' B Q (updV V 3 v') { s with sh := T } ∧ Step Q V (updV V 3 v') w w' := by
  refine h.upd 3 (by decide) (fun j hj => hj.imp id (fun e => Or.inr (Or.inr e))) hw hT.cM hT.own hT.ne hloc (fun j hj hne => ?_) (num_cases (fun j hj => ?_) ?_ ?_)
  · rcases (by omega : j = 0 ∨ j = 1 ∨ j = 2 ∨ j = 3) with rfl | rfl | rfl | rfl
    · rfl
    · rfl
    · rfl
    · exact absurd rfl hne
  · rw [hw.cell j (by omega), h.num j (Or.inl hj)]; exact congrArg (fun x => some (Value.int .i64 x)) (num9 s s.gr T s.lo s.hi j hj).symm
  · rw [hw.cell 12 (by decide), h.num 12 (Or.inr (Or.inl rfl))]; rfl
  · exact hT.cS
/-- the row of lows, or of highs, is told anew -/
theorem SAt.newL (h : SAt w B Q V s) {v' : Value} {L : List Mo} {r : Option Nat} (hr : r = (V 0).ownBlock) (hg : w.grownBy w' r) (hO : MOwn w' B v' L) (hloc : v'.ownBlock = (V 0).ownBlock ∨ ∃ g, v'.ownBlock = some g ∧ w.heap.size ≤ g) :
    SAt (w'.setCell ⟨Q, 9, none⟩ v') B Q (updV V 0 v') { s with lo := L } ∧ Step Q V (updV V 0 v') w (w'.setCell ⟨Q, 9, none⟩ v') ∧ w'.cell? ⟨Q, 9, none⟩ = some (V 0) ∧ w'.frozen? ⟨Q, 9, none⟩ = false := by
  subst hr
  have hw0 : Wr Q (fun j => j = 9) (V 0).ownBlock w w' := Wr.grown hg h.lt (h.ne 0 (by decide))
  have hw := hw0.set (j := 9) rfl v'
  have hQ := hg.block Q h.lt (fun e => h.ne 0 (by decide) e.symm)
  have c9 := (World.cell?_of_block (a := ⟨Q, 9, none⟩) hQ).trans (h.row 0 (by decide))
  have hne : v'.ownBlock ≠ some Q := by
    rcases hloc with a | ⟨g, a, b⟩
    · rw [a]; exact h.ne 0 (by decide)
    · rw [a]; have := h.lt; intro e; cases e; omega
  have := h.upd (s' := { s with lo := L }) 0 (by decide) (fun j hj => Or.inl hj) hw (World.cell?_setCell_same _ _ _ c9) (own_set hO hne) hne hloc (fun j hj hne => by
    rcases (by omega : j = 0 ∨ j = 1 ∨ j = 2 ∨ j = 3) with rfl | rfl | rfl | rfl
    · exact absurd rfl hne
    · rfl
    · rfl
    · rfl) (num_cases (fun j hj => by rw [hw.cell j (by omega), h.num j (Or.inl hj)]; exact congrArg (fun x => some (Value.int .i64 x)) (num9 s s.gr s.sh L s.hi j hj).symm) (by rw [hw.cell 12 (by decide), h.num 12 (Or.inr (Or.inl rfl))]; rfl) (by rw [hw.cell 14 (by decide), h.num 14 (Or.inr (Or.inr rfl))]; rfl))
  exact ⟨this.1, this.2, c9, (World.frozen?_of_block (a := ⟨Q, 9, none⟩) hQ).trans (h.fz 9)⟩
theorem SAt.newH (h : SAt w B Q V s) {v' : Value} {L : List Mo} {r : Option Nat} (hr : r = (V 1).ownBlock) (hg : w.grownBy w' r) (hO : MOwn w' B v' L) (hloc : v'.ownBlock = (V 1).ownBlock ∨ ∃ g, v'.ownBlock = some g ∧ w.heap.size ≤ g) :
    SAt (w'.setCell ⟨Q, 10, none⟩ v') B Q (updV V 1 v') { s with hi := L } ∧ Step Q V (updV V 1 v') w (w'.setCell ⟨Q, 10, none⟩ v') ∧ w'.cell? ⟨Q, 10, none⟩ = some (V 1) ∧ w'.frozen? ⟨Q, 10, none⟩ = false := by
  subst hr
  have hw0 : Wr Q (fun j => j = 10) (V 1).ownBlock w w' := Wr.grown hg h.lt (h.ne 1 (by decide))
  have hw := hw0.set (j := 10) rfl v'
  have hQ := hg.block Q h.lt (fun e => h.ne 1 (by decide) e.symm)
  have c9 := (World.cell?_of_block (a := ⟨Q, 10, none⟩) hQ).trans (h.row 1 (by decide))
  have hne : v'.ownBlock ≠ some Q := by
    rcases hloc with a | ⟨g, a, b⟩
    · rw [a]; exact h.ne 1 (by decide)
    · rw [a]; have := h.lt; intro e; cases e; omega
  have := h.upd (s' := { s with hi := L }) 1 (by decide) (fun j hj => Or.inl hj) hw (World.cell?_setCell_same _ _ _ c9) (own_set hO hne) hne hloc (fun j hj hne => by
    rcases (by omega : j = 0 ∨ j = 1 ∨ j = 2 ∨ j = 3) with rfl | rfl | rfl | rfl
    · rfl
    · exact absurd rfl hne
    · rfl
    · rfl) (num_cases (fun j hj => by rw [hw.cell j (by omega), h.num j (Or.inl hj)]; exact congrArg (fun x => some (Value.int .i64 x)) (num9 s s.gr s.sh s.lo L j hj).symm) (by rw [hw.cell 12 (by decide), h.num 12 (Or.inr (Or.inl rfl))]; rfl) (by rw [hw.cell 14 (by decide), h.num 14 (Or.inr (Or.inr rfl))]; rfl))
  exact ⟨this.1, this.2, c9, (World.frozen?_of_block (a := ⟨Q, 10, none⟩) hQ).trans (h.fz 10)⟩
end
end Stb
end Go.Proofs.Ytanlhkokghjadac
