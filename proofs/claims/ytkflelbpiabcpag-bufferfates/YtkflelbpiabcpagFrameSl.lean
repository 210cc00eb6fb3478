
/- How an argument of a law that is a slice of integers, or of structs of integers, is taken apart. -/
import Derived.WalkKit
import Derived.ProofKit
import Derived.WideShapes
import Derived.Below
import Derived.Deep.Slices
import Derived.ChangeArms
import Derived.ChangeSame
namespace Go.Proofs.Ytkflelbpiabcpag
namespace Frm
open Go.ChangeShapes Go.WideShapes Go.Deep Go.RowKit

/-- what a slice's elements hold: element i's cell j is the number X i j -/
def RowsIn (W : World) (a : Option Addr) (len s : Nat) (X : Nat → Nat → Int) : Prop :=
  ∀ i, i < len → ∃ b off, a = some ⟨b, off, none⟩ ∧ b < W.heap.size ∧ ∀ j, j < s → W.cell? ⟨b, off + (i * s + j), none⟩ = some (.int .i64 (X i j)) ∧ -9223372036854775808 ≤ X i j ∧ X i j ≤ 9223372036854775807

theorem cell_in {w : World} {p : Addr} {v : Value} (h : w.cell? p = some v) : p.block < w.heap.size := by
  by_cases g : p.block < w.heap.size
  · exact g
  · exfalso
    simp only [World.cell?] at h
    rw [Array.getElem?_eq_none (by omega)] at h
    simp at h

theorem RowsIn.below {W W' : World} {a : Option Addr} {len s n : Nat} {X : Nat → Nat → Int} (h : RowsIn W a len s X) (hb : Below n W W') (hn : W.heap.size ≤ n) : RowsIn W' a len s X := by
  intro i hi
  obtain ⟨b, off, rfl, hlt, hc⟩ := h i hi
  refine ⟨b, off, rfl, Nat.lt_of_lt_of_le hlt hb.size, fun j hj => ⟨?_, (hc j hj).2⟩⟩
  rw [← (hc j hj).1]
  exact hb.cell (Nat.lt_of_lt_of_le hlt hn)

section
variable {H : Type} {enc : TypeId × Value → H} {P : Program} {w : World} {base : Nat} {spare : Nat → Bool} {held : Bool}

theorem rows_open {t e : TypeId} {s : Nat} {v : Value} {d : DataW H} {p : List MemPlace} (ht : P.underlying t = some (.slice e)) (hs : P.cellsOf e = s) (h0 : 0 < s)
    (hv : ∃ a len cap, v = .slice a len cap)
    (hint : ∀ n cs x, cs.length = s → DataW.trod enc P w base spare held n e cs = some x → ∀ j, j < s → ∃ z : Int, cs[j]? = some (.int .i64 z) ∧ -9223372036854775808 ≤ z ∧ z ≤ 9223372036854775807)
    (h : DataW.Trod enc P w base spare held t v d p) :
    ∃ (a : Option Addr) (len cap : Nat) (X : Nat → Nat → Int), v = .slice a len cap ∧ len ≤ cap ∧ cap ≤ maxLen ∧ RowsIn w a len s X := by
  obtain ⟨a0, len0, cap0, rfl⟩ := hv
  obtain ⟨fuel, hf⟩ := h
  rcases open_slice ht hf with ⟨hcs, _⟩ | ⟨a, len, cap, m, n, D, Pl, hcs, _, hl, hm, hmm, _, hx⟩
  · simp [Value.cells] at hcs
    obtain ⟨rfl, rfl, rfl⟩ := hcs
    exact ⟨none, 0, 0, fun _ _ => 0, rfl, Nat.le_refl _, Nat.zero_le _, fun i hi => absurd hi (Nat.not_lt_zero _)⟩
  · simp [Value.cells] at hcs
    obtain ⟨rfl, rfl, rfl⟩ := hcs
    have hlm : len0 ≤ m := by rw [hmm]; split <;> omega
    have each : ∀ i j, i < len0 → j < s → ∃ z : Int, w.cell? (a.add (i * s + j)) = some (.int .i64 z) ∧ -9223372036854775808 ≤ z ∧ z ≤ 9223372036854775807 := by
      intro i j hi hj
      obtain ⟨cs', h1, h2⟩ := hx i (by omega)
      rw [hs] at h1
      obtain ⟨_, hlen, hcell⟩ := World.cells?_some h1
      obtain ⟨z, hz, hb1⟩ := hint n cs' _ hlen h2 j hj
      refine ⟨z, ?_, hb1⟩
      have := hcell j hj
      rw [add_add] at this
      rw [this]
      exact hz
    classical
    let X : Nat → Nat → Int := fun i j => if h : i < len0 ∧ j < s then Classical.choose (each i j h.1 h.2) else 0
    have hX : ∀ i j, i < len0 → j < s → w.cell? (a.add (i * s + j)) = some (.int .i64 (X i j)) ∧ -9223372036854775808 ≤ X i j ∧ X i j ≤ 9223372036854775807 := by
      intro i j hi hj
      have := Classical.choose_spec (each i j hi hj)
      simp only [X, dif_pos (And.intro hi hj)]
      exact this
    refine ⟨some a, len0, cap0, X, rfl, hl, hm, fun i hi => ?_⟩
    obtain ⟨b, off, spot⟩ := a
    have hspot : spot = none := by
      have := World.cell?_spot (hX 0 0 (by omega) h0).1
      simpa [Addr.add] using this
    subst hspot
    have hpl : ∀ j, (⟨b, off, none⟩ : Addr).add j = ⟨b, off + j, none⟩ := fun j => add_plain b off j
    refine ⟨b, off, rfl, ?_, fun j hj => ?_⟩
    · have := cell_in (hX i 0 hi h0).1
      rw [hpl] at this
      exact this
    · rw [← hpl]
      exact hX i j hi hj

/-- a cell that reads as an integer is one -/
theorem int_reads {e : TypeId} {n : Nat} {cs : List Value} {x : DataW H × List MemPlace} (he : P.underlying e = some (.int .i64)) (h : DataW.trod enc P w base spare held n e cs = some x) :
    ∃ z : Int, cs = [.int .i64 z] ∧ -9223372036854775808 ≤ z ∧ z ≤ 9223372036854775807 := by
  obtain ⟨z, hcs, _, hwf⟩ := DataW.trod_int he h
  exact ⟨z, hcs, by have := hwf; simp [Lit.wf] at this; exact this⟩

theorem ints_open {t e : TypeId} {v : Value} {d : DataW H} {p : List MemPlace} (ht : P.underlying t = some (.slice e)) (he : P.underlying e = some (.int .i64)) (hc : P.cellsOf e = 1)
    (hv : ∃ a len cap, v = .slice a len cap) (h : DataW.Trod enc P w base spare held t v d p) :
    ∃ (a : Option Addr) (len cap : Nat) (X : Nat → Nat → Int), v = .slice a len cap ∧ len ≤ cap ∧ cap ≤ maxLen ∧ RowsIn w a len 1 X := by
  refine rows_open ht hc (by decide) hv (fun n cs x hl hx j hj => ?_) h
  obtain ⟨z, rfl, hz⟩ := int_reads he hx
  obtain rfl : j = 0 := by omega
  exact ⟨z, rfl, hz⟩

theorem aggs_open {t e : TypeId} {fs : Array Field} {v : Value} {d : DataW H} {p : List MemPlace} (ht : P.underlying t = some (.slice e)) (he : P.underlying e = some (.struct fs))
    (hf : ∀ (i : Nat) (f : Field), fs[i]? = some f → P.underlying f.type = some (.int .i64) ∧ f.offset = i ∧ P.cellsOf f.type = 1) (hct : P.cellsOf e = fs.size) (h0 : 0 < fs.size)
    (hv : ∃ a len cap, v = .slice a len cap) (h : DataW.Trod enc P w base spare held t v d p) :
    ∃ (a : Option Addr) (len cap : Nat) (X : Nat → Nat → Int), v = .slice a len cap ∧ len ≤ cap ∧ cap ≤ maxLen ∧ RowsIn w a len fs.size X := by
  refine rows_open ht hct h0 hv (fun n cs x hl hx j hj => ?_) h
  obtain ⟨xs, m, rfl, _, _, _, hall⟩ := DataW.trod_struct he hx
  obtain ⟨hu, ho, hc⟩ := hf j fs[j] (by simp [hj])
  have := hall j fs[j] (by simp [hj])
  rw [ho, hc] at this
  cases hxj : xs[j]? with
  | none => simp_all
  | some y =>
    rw [hxj] at this
    obtain ⟨z, hz, hb⟩ := int_reads hu this
    refine ⟨z, ?_, hb⟩
    have e1 := congrArg (·[0]?) hz
    simpa [List.getElem?_take, List.getElem?_drop] using e1
end
end Frm
end Go.Proofs.Ytkflelbpiabcpag
