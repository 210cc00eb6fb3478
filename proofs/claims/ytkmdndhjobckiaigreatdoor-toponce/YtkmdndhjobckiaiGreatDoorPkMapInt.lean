/- A map from numbers to numbers, as a function. -/
import Derived.Test.YtkmdndhjobckiaiGreatDoorRows
import Derived.WalkKit
import Derived.ProofKit
import Derived.Maps.OwnOps
import Derived.Maps.OwnSet
namespace Go.Proofs.YtkmdndhjobckiaiGreatDoor
namespace Mp
open Go.RowKit Go.Maps
set_option maxRecDepth 8000

theorem law3 : Keyed Tryz.prog 3 := int_keyed Tryz.underlying3
abbrev k64 (i : Int) : Lit := .int .i64 i
abbrev d64 (i : Int) : DataW Unit := .lit (.int .i64 i)
def upd (f : Int → Int) (i x : Int) : Int → Int := fun j => if j = i then x else f j
def Tells (D : DataW Unit) (f : Int → Int) : Prop := ∀ i, D.atKey (k64 i) (d64 0) = d64 (f i)
theorem Tells.same {D : DataW Unit} {f g : Int → Int} (h : Tells D f) (hg : ∀ i, g i = f i) : Tells D g := fun i => by rw [hg]; exact h i
theorem k64_ne {i j : Int} (h : i ≠ j) : k64 i ≠ k64 j := fun e => h (by injection e)
theorem wf_of {i : Int} (h : -9223372036854775808 ≤ i ∧ i ≤ 9223372036854775807) : (Lit.int .i64 i).wf = true := WalkArith.wf_i64 (by omega)
theorem key_of {i : Int} (h : -9223372036854775808 ≤ i ∧ i ≤ 9223372036854775807) : keyOf Tryz.prog 3 (.int .i64 i) = some (k64 i) := keyOf_int_mk Tryz.underlying3 (wf_of h)
theorem zero3 (w : World) : (zeroValue 3).run Tryz.prog w = .ok (.int .i64 0) w := by kernel_rfl
theorem tells_empty : Tells (.map []) (fun _ => 0) := fun _ => rfl
theorem tells_put {D : DataW Unit} {f : Int → Int} {i x : Int} (h : Tells D f) (hD : IsMap D) : Tells (D.put (k64 i) (d64 x)) (upd f i x) := by
 intro j
 unfold upd
 by_cases e : j = i
 ·subst e; rw [if_pos rfl]; exact atKey_put_same (k := k64 j) hD trivial _ _
 ·rw [if_neg e, atKey_put_other (k64_ne e)]; exact h j
theorem own_isMap {w : World} {b n : Nat} {D : DataW Unit} (h : w.ownsMap Tryz.prog 3 (plainElem (H := Unit) Tryz.prog 3) b n D) : IsMap D := by
 obtain ⟨es, clock, _, _, _, rfl⟩ := h
 exact ⟨_, rfl⟩
def MapAt (w : World) (b n : Nat) (f : Int → Int) : Prop := ∃ D : DataW Unit, IsMap D ∧ Tells D f ∧ w.ownsMap Tryz.prog 3 (plainElem (H := Unit) Tryz.prog 3) b n D
theorem MapAt.new (w : World) : MapAt (w.alloc (.map #[] 0)) w.heap.size 0 (fun _ => 0) := ⟨.map [], isMap_empty, tells_empty, World.ownsMap_made w Tryz.prog 3 _⟩
theorem MapAt.lt {w : World} {b n : Nat} {f : Int → Int} (h : MapAt w b n f) : b < w.heap.size := by obtain ⟨D, _, _, h⟩ := h; exact h.lt
theorem MapAt.below {w w' : World} {b n : Nat} {f : Int → Int} (h : MapAt w b n f) (hb : Below w.heap.size w w') : MapAt w' b n f := by
 obtain ⟨D, h1, h2, h3⟩ := h
 have hl := h3.lt
 obtain ⟨es, clock, hh, F, hs, hD⟩ := h3
 exact ⟨D, h1, h2, es, clock, (hb.block b hl).trans hh, F, hs, hD⟩
theorem MapAt.mono {w : World} {b n m : Nat} {f : Int → Int} (h : MapAt w b n f) (hn : n ≤ m) : MapAt w b m f := by
 obtain ⟨D, h1, h2, h3⟩ := h
 exact ⟨D, h1, h2, h3.mono hn⟩
theorem MapAt.same {w : World} {b n : Nat} {f g : Int → Int} (h : MapAt w b n f) (hg : ∀ i, g i = f i) : MapAt w b n g := by
 obtain ⟨D, h1, h2, h3⟩ := h
 exact ⟨D, h1, h2.same hg, h3⟩
theorem MapAt.look {w : World} {b n : Nat} {f : Int → Int} (h : MapAt w b n f) {i : Int} (hi : -9223372036854775808 ≤ i ∧ i ≤ 9223372036854775807) :
  (Instr.lookup 77 (.map (some b)) (.int .i64 i) false).run Tryz.prog w = .ok (.int .i64 (f i)) w := by
 obtain ⟨D, h1, hf, h⟩ := h
 obtain ⟨c, hr, hat, _⟩ := h.lookup_int law3 Tryz.underlying77 Tryz.underlying3 (zero3 w) (key_of hi)
 rw [hf i] at hat
 have : f i = c := by injection hat with e; injection e
 rw [this]; exact hr
theorem MapAt.put {w : World} {b n : Nat} {f : Int → Int} (h : MapAt w b n f) (hn : n < maxLen) {i x : Int} (hi : -9223372036854775808 ≤ i ∧ i ≤ 9223372036854775807) (hx : -9223372036854775808 ≤ x ∧ x ≤ 9223372036854775807) :
  ∃ w', (Instr.mapUpdate 77 (.map (some b)) (.int .i64 i) (.int .i64 x)).run Tryz.prog w = .ok () w' ∧ MapAt w' b (n + 1) (upd f i x) ∧ w.grownBy w' (some b) := by
 obtain ⟨D, h1, hf, h⟩ := h
 obtain ⟨w', hr, ho, hg⟩ := h.update law3 Tryz.underlying77 hn (key_of hi) (plainElem_int (a := x) Tryz.underlying3 (wf_of hx))
 exact ⟨w', hr, ⟨_, own_isMap ho, tells_put hf h1, ho⟩, hg⟩
end Mp
end Go.Proofs.YtkmdndhjobckiaiGreatDoor
