/- A map from numbers to numbers, as a function. A map from numbers to truths: the set of its keys. -/
import Derived.Test.YtkmdndhjobckiajGreatDoorRows
import Derived.WalkKit
import Derived.ProofKit
import Derived.Maps.OwnOps
import Derived.Maps.OwnSet
namespace Go.Proofs.YtkmdndhjobckiajGreatDoor
namespace Mp
open Go.RowKit Go.Maps
set_option maxRecDepth 8000

theorem law3 : Keyed Tryz.prog 3 := int_keyed Tryz.underlying3
abbrev k64 (i : Int) : Lit := .int .i64 i
abbrev d64 (i : Int) : DataW Unit := .lit (.int .i64 i)
def upd (f : Int → Int) (i x : Int) : Int → Int := fun j => if j = i then x else f j
def Tells (D : DataW Unit) (f : Int → Int) : Prop := ∀ i, D.atKey (k64 i) (d64 0) = d64 (f i)
theorem Tells.same {D : DataW Unit} {f g : Int → Int} (h : Tells D f) (hg : ∀ i, g i = f i) : Tells D g := fun i => by rw [hg]; exact h i
theorem k64_ne {i j : Int} (h : i ≠ j) : k64 i ≠ k64 j := fun e => h (by injection e)
theorem wf_of {i : Int} (h : -9223372036854775808 ≤ i ∧ i ≤ 9223372036854775807) : (Lit.int .i64 i).wf = true := WalkArith.wf_i64 (by omega)
theorem key_of {i : Int} (h : -9223372036854775808 ≤ i ∧ i ≤ 9223372036854775807) : keyOf Tryz.prog 3 (.int .i64 i) = some (k64 i) := keyOf_int_mk Tryz.underlying3 (wf_of h)
theorem tells_empty : Tells (.map []) (fun _ => 0) := fun _ => rfl
def MapAt (w : World) (b n : Nat) (f : Int → Int) : Prop := ∃ D : DataW Unit, IsMap D ∧ Tells D f ∧ w.ownsMap Tryz.prog 3 (plainElem (H := Unit) Tryz.prog 3) b n D
theorem MapAt.new (w : World) : MapAt (w.alloc (.map #[] 0)) w.heap.size 0 (fun _ => 0) := ⟨.map [], isMap_empty, tells_empty, World.ownsMap_made w Tryz.prog 3 _⟩
theorem MapAt.lt {w : World} {b n : Nat} {f : Int → Int} (h : MapAt w b n f) : b < w.heap.size := by obtain ⟨D, _, _, h⟩ := h; exact h.lt
theorem MapAt.below {w w' : World} {b n : Nat} {f : Int → Int} (h : MapAt w b n f) (hb : Below w.heap.size w w') : MapAt w' b n f := by
 obtain ⟨D, h1, h2, h3⟩ := h
 have hl := h3.lt
 obtain ⟨es, clock, hh, F, hs, hD⟩ := h3
 exact ⟨D, h1, h2, es, clock, (hb.block b hl).trans hh, F, hs, hD⟩
theorem MapAt.mono {w : World} {b n m : Nat} {f : Int → Int} (h : MapAt w b n f) (hn : n ≤ m) : MapAt w b m f := by
 obtain ⟨D, h1, h2, h3⟩ := h
 exact ⟨D, h1, h2, h3.mono hn⟩
theorem MapAt.same {w : World} {b n : Nat} {f g : Int → Int} (h : MapAt w b n f) (hg : ∀ i, g i = f i) : MapAt w b n g := by
 obtain ⟨D, h1, h2, h3⟩ := h
 exact ⟨D, h1, h2.same hg, h3⟩
end Mp
namespace Mp
open Go.RowKit Go.Maps
set_option maxRecDepth 8000

def setK (S : Nat → Bool) (i : Nat) (v : Bool) : Nat → Bool := fun j => if j = i then v else S j
theorem cnt_set (S : Nat → Bool) (i : Nat) (v : Bool) : ∀ N, (List.range N).countP (setK S i v) + (if i < N ∧ S i = true then 1 else 0) = (List.range N).countP S + (if i < N ∧ v = true then 1 else 0)
 | 0 => by simp
 | N + 1 => by
  have ih := cnt_set S i v N
  rw [List.range_succ, List.countP_append, List.countP_append, List.countP_singleton, List.countP_singleton]
  by_cases e : i = N
  ·subst e
   have e1 : setK S i v i = v := by simp [setK]
   rw [e1]
   rw [if_neg (by omega), if_neg (by omega)] at ih
   have h1 : (i < i + 1 ∧ S i = true) ↔ S i = true := ⟨fun h => h.2, fun h => ⟨by omega, h⟩⟩
   have h2 : (i < i + 1 ∧ v = true) ↔ v = true := ⟨fun h => h.2, fun h => ⟨by omega, h⟩⟩
   simp only [h1, h2]
   omega
  ·have e1 : setK S i v N = S N := by unfold setK; rw [if_neg (fun h => e h.symm)]
   rw [e1]
   have h1 : (i < N + 1 ∧ S i = true) ↔ (i < N ∧ S i = true) := ⟨fun h => ⟨by omega, h.2⟩, fun h => ⟨by omega, h.2⟩⟩
   have h2 : (i < N + 1 ∧ v = true) ↔ (i < N ∧ v = true) := ⟨fun h => ⟨by omega, h.2⟩, fun h => ⟨by omega, h.2⟩⟩
   simp only [h1, h2]
   omega
def MapB (w : World) (b n : Nat) (S : Nat → Bool) (N : Nat) : Prop :=
 ∃ D : DataW Unit, (∀ i : Nat, Maps.has D (k64 (i : Int)) = S i) ∧ Maps.size D = (List.range N).countP S ∧ w.ownsMap Tryz.prog 3 (plainElem (H := Unit) Tryz.prog 4) b n D
theorem k64_nat {i j : Nat} (h : i ≠ j) : k64 (i : Int) ≠ k64 (j : Int) := k64_ne (by omega)
theorem MapB.new (w : World) (N : Nat) : MapB (w.alloc (.map #[] 0)) w.heap.size 0 (fun _ => false) N := ⟨.map [], fun _ => rfl, by
 rw [show Maps.size (.map [] : DataW Unit) = 0 from rfl, eq_comm, List.countP_eq_zero]
 simp, World.ownsMap_made w Tryz.prog 3 _⟩
theorem MapB.lt {w : World} {b n N : Nat} {S : Nat → Bool} (h : MapB w b n S N) : b < w.heap.size := by obtain ⟨D, _, _, h⟩ := h; exact h.lt
theorem MapB.kept {w w' : World} {b n N : Nat} {S : Nat → Bool} (h : MapB w b n S N) (hb : w'.heap[b]? = w.heap[b]?) : MapB w' b n S N := by
 obtain ⟨D, h1, h2, h3⟩ := h
 obtain ⟨es, clock, hh, F, hs, hD⟩ := h3
 exact ⟨D, h1, h2, es, clock, hb.trans hh, F, hs, hD⟩
theorem MapB.below {w w' : World} {b n N : Nat} {S : Nat → Bool} (h : MapB w b n S N) (hb : Below w.heap.size w w') : MapB w' b n S N := h.kept (hb.block b h.lt)
theorem MapB.mono {w : World} {b n m N : Nat} {S : Nat → Bool} (h : MapB w b n S N) (hn : n ≤ m) : MapB w b m S N := by
 obtain ⟨D, h1, h2, h3⟩ := h
 exact ⟨D, h1, h2, h3.mono hn⟩
theorem MapB.same {w : World} {b n N : Nat} {S T : Nat → Bool} (h : MapB w b n S N) (hg : ∀ i, T i = S i) : MapB w b n T N := by
 obtain rfl : T = S := funext hg
 exact h
theorem MapB.len {w : World} {b n N : Nat} {S : Nat → Bool} (h : MapB w b n S N) (ty : TypeId) : (Builtin.len_ #[34] ty #[.map (some b)]).run Tryz.prog w = .ok (.int .i64 (((List.range N).countP S : Nat) : Int)) w := by
 obtain ⟨D, _, h2, h3⟩ := h
 rw [← h2]
 exact h3.len Tryz.underlying34 ty
theorem MapB.put {w : World} {b n N : Nat} {S : Nat → Bool} (h : MapB w b n S N) (hn : n < maxLen) {i : Nat} (hi : i < N) (hN : N ≤ 1000000) :
  ∃ w', (Instr.mapUpdate 34 (.map (some b)) (.int .i64 (i : Int)) (.bool true)).run Tryz.prog w = .ok () w' ∧ MapB w' b (n + 1) (setK S i true) N ∧ w.grownBy w' (some b) := by
 obtain ⟨D, h1, h2, h3⟩ := h
 obtain ⟨w', hr, ho, hg⟩ := h3.store law3 Tryz.underlying34 hn (key_of (i := (i : Int)) (by omega)) (plainElem_bool Tryz.underlying4 true)
 refine ⟨w', hr, ⟨_, fun j => ?_, ?_, ho⟩, hg.grown⟩
 ·unfold setK
  by_cases e : j = i
  ·subst e; rw [if_pos rfl]; exact has_put_same (k := k64 (j : Int)) h3.isMap trivial _
  ·rw [if_neg e, has_put_other (k64_nat e)]; exact h1 j
 ·have hc := cnt_set S i true N
  rw [size_put (h3.tidy law3), h1 i, h2]
  cases hS : S i
  ·rw [if_neg (by simp [hS]), if_pos ⟨hi, rfl⟩] at hc; simp; omega
  ·rw [if_pos ⟨hi, hS⟩, if_pos ⟨hi, rfl⟩] at hc; simp; omega
theorem MapB.del {w : World} {b n N : Nat} {S : Nat → Bool} (h : MapB w b n S N) {i : Nat} (hi : i < N) (hN : N ≤ 1000000) (ty : TypeId) :
  ∃ w', (Builtin.delete_ #[34, 3] ty #[.map (some b), .int .i64 (i : Int)]).run Tryz.prog w = .ok (.tuple #[]) w' ∧ MapB w' b n (setK S i false) N ∧ w.grownBy w' (some b) := by
 obtain ⟨D, h1, h2, h3⟩ := h
 obtain ⟨w', hr, ho, hg⟩ := h3.drop law3 Tryz.underlying34 (key_of (i := (i : Int)) (by omega)) ty
 refine ⟨w', hr, ⟨_, fun j => ?_, ?_, ho⟩, hg.grown⟩
 ·unfold setK
  by_cases e : j = i
  ·subst e; rw [if_pos rfl]; exact has_del_same
  ·rw [if_neg e, has_del_other (k64_nat e)]; exact h1 j
 ·have hc := cnt_set S i false N
  have hd := size_del (k := k64 (i : Int)) (h3.tidy law3)
  rw [h1 i, h2] at hd
  cases hS : S i
  ·rw [if_neg (by simp [hS]), if_neg (by simp)] at hc; rw [hS, if_neg (by simp)] at hd; omega
  ·rw [if_pos ⟨hi, hS⟩, if_neg (by simp)] at hc; rw [hS, if_pos rfl] at hd; omega
end Mp
end Go.Proofs.YtkmdndhjobckiajGreatDoor
