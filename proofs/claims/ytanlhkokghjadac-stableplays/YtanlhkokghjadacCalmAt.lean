
/- The document's Stable (tideref.Calm): plain, and as it lies in memory. -/
import Derived.Test.YtanlhkokghjadacStbTI
import Derived.Test.YtanlhkokghjadacStbTal
namespace Go.Proofs.Ytanlhkokghjadac
namespace Stb
open Rw Go.RowKit Plain
set_option maxRecDepth 8000

structure Cm where
  u : Pc
  d : Pc
  last : Int
  ws : List Mo
  ms : List Mo
/-- one want is looked at -/
def stF (up : Bool) (t : Int) (n : Int) (m : Mo) : Int := if t < m.t ∧ (if up then m.p < n else n < m.p) then m.p else n
def cU1 (c : Cm) (now want : Int) : Int := (c.ws ++ [(⟨now, want⟩ : Mo)]).foldl (stF true (now - c.u.w)) want
def cUb (c : Cm) (now hv : Int) : Int := max (hv - sumF fup c.ms (now - c.u.p)) 0
def cU2 (c : Cm) (now hv want : Int) : Int := if bnd c.u then min (cU1 c now want) (cUb c now hv + max c.u.n (up (clip (cUb c now hv * c.u.c)) (clip 100))) else cU1 c now want
def cU (c : Cm) (now hv want : Int) : Int := max (cU2 c now hv want) hv
def cD1 (c : Cm) (now want : Int) : Int := (c.ws ++ [(⟨now, want⟩ : Mo)]).foldl (stF false (now - c.d.w)) want
def cDb (c : Cm) (now hv : Int) : Int := hv + sumF fdn c.ms (now - c.d.p)
def cD2 (c : Cm) (now hv want : Int) : Int := if bnd c.d then max (cD1 c now want) (cDb c now hv - max c.d.n (share (atz (clip (cDb c now hv))) (atz (clip (c.d.c * 10))))) else cD1 c now want
def cD (c : Cm) (now hv want : Int) : Int := min (cD2 c now hv want) hv
def cN (c : Cm) (now hv want : Int) : Int := if okArg c.last now hv want then (if hv < want then cU c now hv want else if want < hv then cD c now hv want else hv) else 0
def cE (c : Cm) (now hv want : Int) : Int := if okArg c.last now hv want then 0 else 1
def cS (c : Cm) (now hv want : Int) : Cm := if okArg c.last now hv want then ⟨c.u, c.d, now, c.ws ++ [⟨now, want⟩], mov c.ms now (cN c now hv want - hv)⟩ else c
def cnum (c : Cm) : Nat → Int
  | 0 => c.u.w
  | 1 => c.u.n
  | 2 => c.u.c
  | 3 => c.u.p
  | 4 => c.d.w
  | 5 => c.d.n
  | 6 => c.d.c
  | 7 => c.d.p
  | _ => c.last
def cblk (D : Nat) (vw vm : Value) (k : Nat) : Prop := k = D ∨ vw.ownBlock = some k ∨ vm.ownBlock = some k
structure CAt (w : World) (B D : Nat) (vw vm : Value) (c : Cm) : Prop where
  lt : D < w.heap.size
  bD : B ≤ D
  fz : ∀ j, w.frozen? ⟨D, j, none⟩ = false
  num : ∀ j, j < 9 → w.cell? ⟨D, j, none⟩ = some (.int .i64 (cnum c j))
  rW : w.cell? ⟨D, 9, none⟩ = some vw
  rM : w.cell? ⟨D, 10, none⟩ = some vm
  oW : Own w B 53 2 vw c.ws.length (cels mc c.ws)
  oM : Own w B 53 2 vm c.ms.length (cels mc c.ms)
  nW : vw.ownBlock ≠ some D
  nM : vm.ownBlock ≠ some D
  ap : ∀ g, vw.ownBlock = some g → vm.ownBlock ≠ some g
structure CStep (D : Nat) (vw vm vw' vm' : Value) (w w' : World) : Prop where
  os : w'.os = w.os
  tape : w'.tape = w.tape
  output : w'.output = w.output
  size : w.heap.size ≤ w'.heap.size
  block : ∀ k, k < w.heap.size → ¬ cblk D vw vm k → w'.heap[k]? = w.heap[k]?
  loc : ∀ k, cblk D vw' vm' k → cblk D vw vm k ∨ w.heap.size ≤ k
section
variable {w w' w'' : World} {B D : Nat} {vw vm vw' vm' vw'' vm'' : Value} {c : Cm}
theorem CStep.refl (D : Nat) (vw vm : Value) (w : World) : CStep D vw vm vw vm w w := ⟨rfl, rfl, rfl, Nat.le_refl _, fun _ _ _ => rfl, fun _ h => Or.inl h⟩
theorem CStep.trans (h : CStep D vw vm vw' vm' w w') (g : CStep D vw' vm' vw'' vm'' w' w'') : CStep D vw vm vw'' vm'' w w'' := by
  refine ⟨g.os.trans h.os, g.tape.trans h.tape, g.output.trans h.output, Nat.le_trans h.size g.size, fun k hk hb => ?_, fun k hk => ?_⟩
  · refine (g.block k (Nat.lt_of_lt_of_le hk h.size) (fun e => ?_)).trans (h.block k hk hb)
    rcases h.loc k e with a | a
    · exact hb a
    · omega
  · rcases g.loc k hk with a | a
    · exact h.loc k a
    · exact Or.inr (Nat.le_trans h.size a)
theorem CStep.of_below (hb : Below w.heap.size w w') : CStep D vw vm vw vm w w' := ⟨hb.os, hb.tape, hb.output, hb.size, fun k hk _ => hb.block k hk, fun _ h => Or.inl h⟩
theorem CAt.blt (h : CAt w B D vw vm c) {k : Nat} (hk : cblk D vw vm k) : B ≤ k ∧ k < w.heap.size := by
  rcases hk with rfl | e | e
  · exact ⟨h.bD, h.lt⟩
  · exact h.oW.lt k e
  · exact h.oM.lt k e
theorem CStep.below (h : CStep D vw vm vw' vm' w w') (hA : CAt w B D vw vm c) (hB : B ≤ w.heap.size) : Below B w w' :=
  ⟨h.os, h.tape, h.output, h.size, fun k hk => h.block k (by omega) (fun e => by have := (hA.blt e).1; omega)⟩
theorem CAt.kept (h : CAt w B D vw vm c) (hb : ∀ k, cblk D vw vm k → w'.heap[k]? = w.heap[k]?) : CAt w' B D vw vm c := by
  have hQ := hb D (Or.inl rfl)
  refine ⟨?_, h.bD, fun j => (World.frozen?_of_block (a := ⟨D, j, none⟩) hQ).trans (h.fz j), fun j hj => (World.cell?_of_block (a := ⟨D, j, none⟩) hQ).trans (h.num j hj), (World.cell?_of_block (a := ⟨D, 9, none⟩) hQ).trans h.rW, (World.cell?_of_block (a := ⟨D, 10, none⟩) hQ).trans h.rM, h.oW.kept (fun g hg => hb g (Or.inr (Or.inl hg))), h.oM.kept (fun g hg => hb g (Or.inr (Or.inr hg))), h.nW, h.nM, h.ap⟩
  have := h.lt
  rw [Array.getElem?_eq_getElem this] at hQ
  exact (Array.getElem?_eq_some_iff.1 hQ).1
theorem CAt.below (h : CAt w B D vw vm c) (hb : Below w.heap.size w w') : CAt w' B D vw vm c := h.kept (fun k hk => hb.block k (h.blt hk).2)
theorem CAt.alloc (h : CAt w B D vw vm c) (o : Obj) : CAt (w.alloc o) B D vw vm c := h.below ((Below.refl _ _).alloc (Nat.le_refl _) _)
theorem own_setC {e : TypeId} {j : Nat} {v u : Value} {n : Nat} {xs : List Value} (h : Own w B e 2 v n xs) (hne : v.ownBlock ≠ some D) : Own (w.setCell ⟨D, j, none⟩ u) B e 2 v n xs :=
  h.kept (fun g hg => Below.heap_setCell w ⟨D, j, none⟩ u g (fun e => hne (by rw [hg]; exact congrArg some e)))
theorem cell_set {i j : Nat} {u : Value} (h : i ≠ j) : (w.setCell ⟨D, j, none⟩ u).cell? ⟨D, i, none⟩ = w.cell? ⟨D, i, none⟩ :=
  World.cell?_setCell_other _ _ _ _ (fun e => h (by have := congrArg Addr.off e; simp at this; exact this.symm))
theorem cnum_last (c : Cm) (x : Int) (ws ms : List Mo) (j : Nat) (hj : j < 9) (h8 : j ≠ 8) : cnum ⟨c.u, c.d, x, ws, ms⟩ j = cnum c j := by
  rcases (by omega : j = 0 ∨ j = 1 ∨ j = 2 ∨ j = 3 ∨ j = 4 ∨ j = 5 ∨ j = 6 ∨ j = 7) with rfl | rfl | rfl | rfl | rfl | rfl | rfl | rfl <;> rfl
theorem cnum_rows (c : Cm) (ws ms : List Mo) (j : Nat) (hj : j < 9) : cnum ⟨c.u, c.d, c.last, ws, ms⟩ j = cnum c j := by
  rcases (by omega : j = 0 ∨ j = 1 ∨ j = 2 ∨ j = 3 ∨ j = 4 ∨ j = 5 ∨ j = 6 ∨ j = 7 ∨ j = 8) with rfl | rfl | rfl | rfl | rfl | rfl | rfl | rfl | rfl <;> rfl
theorem CAt.setLast (h : CAt w B D vw vm c) (x : Int) : CAt (w.setCell ⟨D, 8, none⟩ (.int .i64 x)) B D vw vm ⟨c.u, c.d, x, c.ws, c.ms⟩ ∧ CStep D vw vm vw vm w (w.setCell ⟨D, 8, none⟩ (.int .i64 x)) := by
  refine ⟨⟨by simpa using h.lt, h.bD, fun j => by rw [World.frozen?_setCell]; exact h.fz j, fun j hj => ?_, by rw [cell_set (by decide)]; exact h.rW, by rw [cell_set (by decide)]; exact h.rM, own_setC h.oW h.nW, own_setC h.oM h.nM, h.nW, h.nM, h.ap⟩, ⟨rfl, rfl, rfl, by simp, fun k hk hb => Below.heap_setCell w ⟨D, 8, none⟩ _ k (fun e => hb (Or.inl e)), fun _ hk => Or.inl hk⟩⟩
  by_cases e : j = 8
  · subst e; rw [World.cell?_setCell_same _ _ _ (h.num 8 (by decide))]; rfl
  · rw [cell_set e, h.num j hj, cnum_last c x c.ws c.ms j hj e]
/-- the row of wants is told anew -/
theorem CAt.newW (h : CAt w B D vw vm c) {L : List Mo} (hg : w.grownBy w' vw.ownBlock) (hO : Own w' B 53 2 vw' L.length (cels mc L)) (hl : vw'.ownBlock = vw.ownBlock ∨ ∃ g, vw'.ownBlock = some g ∧ w.heap.size ≤ g) :
    CAt (w'.setCell ⟨D, 9, none⟩ vw') B D vw' vm ⟨c.u, c.d, c.last, L, c.ms⟩ ∧ CStep D vw vm vw' vm w (w'.setCell ⟨D, 9, none⟩ vw') ∧ w'.cell? ⟨D, 9, none⟩ = some vw ∧ w'.frozen? ⟨D, 9, none⟩ = false := by
  have hQ := hg.block D h.lt (fun e => h.nW e.symm)
  have cQ : ∀ j, w'.cell? ⟨D, j, none⟩ = w.cell? ⟨D, j, none⟩ := fun j => World.cell?_of_block (a := ⟨D, j, none⟩) hQ
  have fQ : ∀ j, w'.frozen? ⟨D, j, none⟩ = w.frozen? ⟨D, j, none⟩ := fun j => World.frozen?_of_block (a := ⟨D, j, none⟩) hQ
  have hne : vw'.ownBlock ≠ some D := by
    rcases hl with a | ⟨g, a, b⟩
    · rw [a]; exact h.nW
    · rw [a]; have := h.lt; intro e; cases e; omega
  have hM : Own w' B 53 2 vm c.ms.length (cels mc c.ms) := h.oM.kept (fun g hg' => hg.block g (h.oM.lt g hg').2 (fun e => h.ap g e.symm hg'))
  refine ⟨⟨by simpa using Nat.lt_of_lt_of_le h.lt hg.size, h.bD, fun j => by rw [World.frozen?_setCell, fQ]; exact h.fz j, fun j hj => ?_, World.cell?_setCell_same _ _ _ ((cQ 9).trans h.rW), by rw [cell_set (by decide), cQ]; exact h.rM, own_setC hO hne, own_setC hM h.nM, hne, h.nM, fun g hg' e => ?_⟩, ⟨hg.os, hg.tape, hg.output, by simpa using hg.size, fun k hk hb => (Below.heap_setCell w' ⟨D, 9, none⟩ _ k (fun e => hb (Or.inl e))).trans (hg.block k hk (fun e => hb (Or.inr (Or.inl e.symm)))), fun k hk => ?_⟩, (cQ 9).trans h.rW, (fQ 9).trans (h.fz 9)⟩
  · rw [cell_set (by omega), cQ, h.num j hj, cnum_rows c L c.ms j hj]
  · rcases hl with a | ⟨x, a, b⟩
    · rw [a] at hg'; exact h.ap g hg' e
    · rw [a] at hg'; cases hg'; have := (h.oM.lt _ e).2; omega
  · rcases hk with a | a | a
    · exact Or.inl (Or.inl a)
    · rcases hl with b | ⟨x, b, d⟩
      · rw [b] at a; exact Or.inl (Or.inr (Or.inl a))
      · rw [b] at a; cases a; exact Or.inr d
    · exact Or.inl (Or.inr (Or.inr a))
/-- the row of moves is told anew -/
theorem CAt.newM (h : CAt w B D vw vm c) {L : List Mo} (hg : w.grownBy w' vm.ownBlock) (hO : Own w' B 53 2 vm' L.length (cels mc L)) (hl : vm'.ownBlock = vm.ownBlock ∨ ∃ g, vm'.ownBlock = some g ∧ w.heap.size ≤ g) :
    CAt (w'.setCell ⟨D, 10, none⟩ vm') B D vw vm' ⟨c.u, c.d, c.last, c.ws, L⟩ ∧ CStep D vw vm vw vm' w (w'.setCell ⟨D, 10, none⟩ vm') ∧ w'.cell? ⟨D, 10, none⟩ = some vm ∧ w'.frozen? ⟨D, 10, none⟩ = false := by
  have hQ := hg.block D h.lt (fun e => h.nM e.symm)
  have cQ : ∀ j, w'.cell? ⟨D, j, none⟩ = w.cell? ⟨D, j, none⟩ := fun j => World.cell?_of_block (a := ⟨D, j, none⟩) hQ
  have fQ : ∀ j, w'.frozen? ⟨D, j, none⟩ = w.frozen? ⟨D, j, none⟩ := fun j => World.frozen?_of_block (a := ⟨D, j, none⟩) hQ
  have hne : vm'.ownBlock ≠ some D := by
    rcases hl with a | ⟨g, a, b⟩
    · rw [a]; exact h.nM
    · rw [a]; have := h.lt; intro e; cases e; omega
  have hW : Own w' B 53 2 vw c.ws.length (cels mc c.ws) := h.oW.kept (fun g hg' => hg.block g (h.oW.lt g hg').2 (fun e => h.ap g hg' e.symm))
  refine ⟨⟨by simpa using Nat.lt_of_lt_of_le h.lt hg.size, h.bD, fun j => by rw [World.frozen?_setCell, fQ]; exact h.fz j, fun j hj => ?_, by rw [cell_set (by decide), cQ]; exact h.rW, World.cell?_setCell_same _ _ _ ((cQ 10).trans h.rM), own_setC hW h.nW, own_setC hO hne, h.nW, hne, fun g hg' e => ?_⟩, ⟨hg.os, hg.tape, hg.output, by simpa using hg.size, fun k hk hb => (Below.heap_setCell w' ⟨D, 10, none⟩ _ k (fun e => hb (Or.inl e))).trans (hg.block k hk (fun e => hb (Or.inr (Or.inr e.symm)))), fun k hk => ?_⟩, (cQ 10).trans h.rM, (fQ 10).trans (h.fz 10)⟩
  · rw [cell_set (by omega), cQ, h.num j hj, cnum_rows c c.ws L j hj]
  · rcases hl with a | ⟨x, a, b⟩
    · rw [a] at e; exact h.ap g hg' e
    · rw [a] at e; cases e; have := (h.oW.lt _ hg').2; omega
  · rcases hk with a | a | a
    · exact Or.inl (Or.inl a)
    · exact Or.inl (Or.inr (Or.inl a))
    · rcases hl with b | ⟨x, b, d⟩
      · rw [b] at a; exact Or.inl (Or.inr (Or.inr a))
      · rw [b] at a; cases a; exact Or.inr d
end
end Stb
end Go.Proofs.Ytanlhkokghjadac
